/- Layer 17, the landed code: Drop; the least of a row; Appends of layer 15: a slice onto a row of the call's own, whatever comes in (as in layer 13); Small things of layers 16 and 17 that name no function: items in a row, what is kept, a row into which is stored; Plain mathematics of layer 17: who is dirty, written anew with one more or one less. No program in this text; The document's own answers of layer 17: who is dirty, written anew (mark); two rows compared (Ints); DERIVED: THE SHELF's CONTRACTS AT THIS DUMP, IN PLAIN WORDS (tools/lay-plain.mjs out of 'TryShelf.lean', which tools/lay-shelf.mjs wrote): THE SAME DECLARATIONS UNDER THE SAME NAMES: 'import', 'namespace', 'open', 'def', 'theorem' AND NOTHING ELSE: no command of the shelf's: FOR A HAND-IN. Each laying: the table of numbers ('.._ren') and one theorem, a field a fact of the dump's own or the kernel's comparison; each contract: ONE APPLICATION; Layer 17, the landed code: the keys of a set, gathered by the library, sorted by it. -/
import Derived.Test.YtndmnlgancnbkaaZL
import Derived.Test.YtndmnlgancnbkaaZ00
import Derived.Test.YtndmnlgancnbkaaZ01
import Derived.Test.YtndmnlgancnbkaaZ02
import Derived.Test.YtndmnlgancnbkaaZ03
namespace Go.Proofs.Ytndmnlgancnbkaa
open Go.RowKit Go.Lib
set_option linter.unusedVariables false
set_option linter.unusedSimpArgs false
section
variable {HP : HpT} (H : HeapOk HP)
include H
set_option maxRecDepth 100000 in
set_option maxHeartbeats 8000000 in
theorem ldrop17 {w : World} {v : Value} {S : Nat → Prop} {m g : Int} {L : List It} {D : List Int} (s : Int) (hr : Rel w w) (q : LQp HP w v S m g L D) (is : i64 s) :
    Calls Try.prog 16 #[v, .int .i64 s] w fun e w' => e = .returned (.bool (dropB L D s)) ∧ ∃ S', LQp HP w' v S' m g (remH L s) (remD D s) ∧ St S S' w w' := by
  have hi := q.1.drop s
  have HR := Lib.hid hr
  rcases q.2 with ⟨rfl, rfl, rfl, rfl, rfl, rfl⟩ | ⟨b, h, d, SH, rfl, rfl, z, h1⟩
  · have HQ := Lib.hid q
    clear hr q hi is H
    show Calls _ _ _ _ fun e w' => e = .returned (.bool false) ∧ _
    go_enter Try.func16, Try.ntmps16
    go_wp2_with (go_at_call 25; (with_reducible refine (made17_nil _).mono ?_); rintro e w1 ⟨rfl, rfl⟩)
    go_ret
    exact ⟨rfl, _, HQ.out, St.of_rel17l HR.out⟩
  · have HS := Lib.hid (i64_wf is)
    have HB := Lib.hid z.box
    have HH := Lib.hid H
    have HZ := Lib.hid z
    have HI := Lib.hid (show ∀ (w' : World) (SH' : Nat → Prop), Lb HP w' b h d SH' m g (remH L s) (remD D s) → LQp HP w' (.pointer (some ⟨b, 0, none⟩)) (SqL b d SH') m g (remH L s) (remD D s) from fun w' SH' a => ⟨hi, .inr ⟨b, h, d, SH', rfl, rfl, a, h1⟩⟩)
    obtain ⟨bl, hbl⟩ : ∃ q, hasH L s = q := ⟨_, rfl⟩
    obtain ⟨bd, hbd⟩ : ∃ q, decide (s ∈ D) = q := ⟨_, rfl⟩
    have e1 : dropB L D s = (bl || bd) := by unfold dropB; rw [hbl, hbd]
    rw [e1]
    have K2 := Lib.hid (fun (w1 : World) (hr1 : Rel w w) (a : Lb HP w1 b h d SH m g L (remD D s)) (s0 : St (SqL b d SH) (SqL b d SH) w w1) => show Calls Try.prog 38 #[.pointer (some ⟨h, 0, none⟩), .int .i64 s] w1 fun e w' => ∃ SH', e = .returned (.bool bl) ∧ Hid (Lb HP w' b h d SH' m g (remH L s) (remD D s)) ∧ Hid (St (SqL b d SH) (SqL b d SH') w w') from by
      have hr2 : Rel w1 w1 := (Rel.start (by exact hr1.1))
      refine (H.remove s hr2 a.hp is).mono ?_
      rw [hbl]
      rintro e w' ⟨he, SH', h2, h3⟩
      obtain ⟨a2, c2⟩ := a.heap h2 h3
      exact ⟨SH', he, Lib.hid a2, Lib.hid (s0.trans17 c2)⟩)
    have k2 := z.box.cell 2
    have hl := z.set.look (i64_wf is)
    rw [hbd] at hl
    have HR1 := Lib.hid (hr.alloc (.cells #[] 60))
    clear hr q hi is H z hbl hbd e1
    go_enter Try.func16, Try.ntmps16
    go_upto_region 4 with (go_at_call 25; (with_reducible refine (made17 HB.out).mono ?_); rintro e w1 ⟨rfl, rfl⟩)
    have q1 := Lib.hid (HZ.out.rel HH.out HR1.out)
    have S1 := Lib.hid (St.of_rel17l (S := SqL b d SH) HR1.out)
    obtain ⟨w1, hw1⟩ : ∃ W, w.alloc (.cells #[] 60) = W := ⟨_, rfl⟩
    rw [hw1] at q1 S1 HR1
    try rw [hw1]
    have k3 := q1.out.box.cell 2
    have QS := Lib.hid q1.out.set
    clear hw1 hl k2
    go_upto_region 5 with ((refine wp_clean _ rfl _ _ rfl d D rfl QS.out s rfl HS.out ?_); intro w2 d2 g2; have D2 := Lib.hid d2; have G2 := Lib.hid g2; clear d2 g2)
    have Z2 := Lib.hid (q1.out.map HH.out D2.out G2.out)
    have k4 := Z2.out.1.box.cell 1
    have S2 := Lib.hid (S1.out.trans17 Z2.out.2)
    cases bl
    · go_wp2_with (go_at_call 38; (with_reducible refine (K2.out _ HR.out Z2.out.1 S2.out).mono ?_); rintro e w3 ⟨SH3, rfl, q3, s3⟩)
      go_ret
      exact ⟨rfl, _, HI.out _ _ q3.out, s3.out⟩
    · go_wp2_with (go_at_call 38; (with_reducible refine (K2.out _ HR.out Z2.out.1 S2.out).mono ?_); rintro e w3 ⟨SH3, rfl, q3, s3⟩)
      go_ret
      exact ⟨rfl, _, HI.out _ _ q3.out, s3.out⟩
end
theorem int_eq17 {a b : Int} (h : a = b) : Value.int .i64 a = .int .i64 b := by rw [h]
set_option maxRecDepth 100000 in
set_option maxHeartbeats 8000000 in
/-- slices.Min of a row that a call has just made. -/
theorem min17 (d : Int) (D : List Int) (hm : ∀ z ∈ D, d ≤ z) (hd : d ∈ D) (A : Option Addr) (c : Nat) (w : World) (hN : Nums w A c D) :
    Calls Try.prog 49 #[.slice A D.length c] w fun e w' => e = .returned (.int .i64 d) ∧ w = w' := by
  obtain ⟨n, hn⟩ : ∃ n, D.length = n := ⟨_, rfl⟩
  have h0 : 0 < D.length := List.length_pos_of_mem hd
  have hc9 : n ≤ 9223372036854775807 := by rw [← hn]; exact Nat.le_trans hN.1 hN.2.1
  obtain ⟨a, rfl⟩ : ∃ a, A = some a := by
    obtain ⟨a, e, _⟩ := hN.2.2.2 0 h0
    exact ⟨a, e⟩
  have HC := Lib.hid (show ∀ i (h : i < D.length), w.cell? (a.add i) = some (.int .i64 D[i]) from fun i h => by
    obtain ⟨a', e, _, hc⟩ := hN.2.2.2 i h
    obtain rfl := Option.some.inj e
    exact hc)
  obtain ⟨x0, hx0⟩ : ∃ x, D[0] = x := ⟨_, rfl⟩
  have k0 := HC.out 0 h0
  rw [hx0, show a.add 0 = a from by cases a; rfl] at k0
  rw [hn]
  have hn0 : (0 : Int) < (n : Int) := by omega
  have hn1 : ¬ (n : Int) < 1 := by omega
  have HN := Lib.hid hn
  have HX0 := Lib.hid hx0
  have HD := Lib.hid hd
  have HM := Lib.hid hm
  have H0 := Lib.hid h0
  clear hN hn hd hm
  clear hx0
  have h0 := Lib.hid h0
  go_enter Try.func49, Try.ntmps49
  go_wp2_with (fail)
  go_loopw [3, 4] (fun o i wr => ∃ (j : Nat) (y : Int), o = .int .i64 y ∧ i = .int .i64 (j : Int) ∧ 1 ≤ j ∧ j ≤ n ∧ Hid (y ∈ D ∧ ∀ i (h : i < D.length), i < j → y ≤ D[i]) ∧ wr = w) (fun _ i _ => n - (RowKit.intOf i).toNat)
  case atStart =>
    refine ⟨1, x0, rfl, rfl, Nat.le_refl _, by omega, Lib.hid ⟨by rw [← HX0.out]; exact List.getElem_mem _, fun i h hi => ?_⟩, rfl⟩
    obtain rfl : i = 0 := by omega
    rw [HX0.out]; exact Int.le_refl _
  case round =>
    obtain ⟨j, y, rfl, rfl, hj1, hj, HY, rfl⟩ := hrel
    by_cases hlt : j < n
    · have hjL : j < D.length := by rw [HN.out]; exact hlt
      have k1 := HC.out j hjL
      obtain ⟨x, hx⟩ : ∃ x, D[j] = x := ⟨_, rfl⟩
      rw [hx] at k1
      have HX := Lib.hid hx
      have hij : (j : Int) < (n : Int) := by omega
      have hij0 : (0 : Int) ≤ (j : Int) := by omega
      clear hx
      by_cases hyx : x < y
      · go_wp2_with (fail)
        go_roundw
        case rel =>
          refine ⟨j + 1, x, by first | rfl | exact int_eq17 (by omega), by go_num, by omega, by omega, Lib.hid ⟨by rw [← HX.out]; exact List.getElem_mem _, fun i h hi => ?_⟩, trivial⟩
          by_cases e : i = j
          · subst e; rw [HX.out]; exact Int.le_refl _
          · have := HY.out.2 i h (by omega); omega
        case measure => simp [RowKit.intOf]; omega
      · go_wp2_with (fail)
        go_roundw
        case rel =>
          refine ⟨j + 1, y, by first | rfl | exact int_eq17 (by omega), by go_num, by omega, by omega, Lib.hid ⟨HY.out.1, fun i h hi => ?_⟩, trivial⟩
          by_cases e : i = j
          · subst e; rw [HX.out]; omega
          · exact HY.out.2 i h (by omega)
        case measure => simp [RowKit.intOf]; omega
    · obtain rfl : j = n := by omega
      have hij : ¬ (j : Int) < (j : Int) := by omega
      have HE := Lib.hid (show y = d from by
        have h1 := HM.out y HY.out.1
        obtain ⟨i, hi, e⟩ := List.getElem_of_mem HD.out
        have h2 := HY.out.2 i hi (by rw [← HN.out]; exact hi)
        omega)
      go_wp2_with (fail)
      go_ret
      exact ⟨ret_int17 HE.out, rfl⟩
end Go.Proofs.Ytndmnlgancnbkaa

namespace Go.Proofs.Ytndmnlgancnbkaa
open Go.RowKit Go.Lib
set_option linter.unusedVariables false
set_option linter.unusedSimpArgs false
section
variable {α : Type} {cl : α → List Value} {k : Nat}
theorem row_gone15 {w : World} {b : List α} (h : RowAt cl k w none b) : b = [] := by
  cases b with
  | nil => rfl
  | cons x r => obtain ⟨g, off, e, _⟩ := h 0 (by simp); cases e
theorem row_news15 (hk : ∀ x, (cl x).length = k) {w : World} {p : Addr} {b : List α} (h : RowAt cl k w (some p) b) : ∀ (j : Nat) (u : Value), (b.flatMap cl)[j]? = some u → w.cell? (p.add j) = some u := fun j u hu => by
  have hj : j < b.length * k := by
    rcases Nat.lt_or_ge j (b.length * k) with h' | h'
    · exact h'
    · rw [List.getElem?_eq_none (by rw [flat_len hk]; exact h')] at hu; cases hu
  have hk0 : 0 < k := by
    rcases Nat.eq_zero_or_pos k with h0 | h0
    · rw [h0, Nat.mul_zero] at hj; omega
    · exact h0
  have e : j = j / k * k + j % k := (Nat.div_add_mod' j k).symm
  have h1 : j / k < b.length := Nat.div_lt_of_lt_mul (by rw [Nat.mul_comm]; exact hj)
  have h2 : j % k < k := Nat.mod_lt _ hk0
  obtain ⟨g', off', e1, _, hc⟩ := h (j / k) h1
  injection e1 with e1
  subst e1
  rw [addr_at, e, ← Nat.add_assoc, hc (j % k) h2]
  rw [e, flat_at hk b (j / k) h1 (j % k) h2] at hu
  exact hu
theorem flat_one15 (h1 : ∀ x, ∀ u ∈ cl x, u.oneCell' = true) (b : List α) : ∀ u ∈ b.flatMap cl, u.oneCell' = true := fun u hu => by
  obtain ⟨x, _, hx⟩ := List.mem_flatMap.1 hu
  exact h1 x u hx
/-- A slice, whatever it is, appended onto a row of the call's own. -/
theorem wpList_onto15 {w : World} {ops : Array Oper} {rest : List Oper} {o : Oper} {a : Act} {Q : Exit → Act → World → Prop} (T LT : TypeId) (i0 : TypeInfo) (z : Value) (bytes : Nat) (hu : Try.prog.underlying LT = some (.slice T)) (hi0 : Try.prog.info? T = some i0) (hz0 : i0.zero = some z) (hz1 : i0.size = k) (hz2 : i0.bytes = bytes) (hzs : z.cells.size = k) (hk0 : 0 < k)
    (hk : ∀ x, (cl x).length = k) (h1 : ∀ x, ∀ u ∈ cl x, u.oneCell' = true) (hgd : o.guard = none) (s x : Operand)
    (ho : o.op = .call { callee := .builtin .append, args := #[s, x], argTypes := #[LT, LT] }) (base : Nat) (v : Value) (xs : List α) (hs : a.eval s = v) (hown : RowOwn T cl k w base v xs) (A : Option Addr) (n c : Nat) (b : List α) (hn : b.length = n) (hx : a.eval x = .slice A n c)
    (hat : RowAt cl k w A b) (hA : A = none → c = 0) (hl : (xs.length + b.length) * bytes ≤ 140737488355328) (hm : xs.length + b.length ≤ maxLen) (hbase : base ≤ w.heap.size)
    (h : ∀ v' w', RowOwn T cl k w' base v' (xs ++ b) → w.grownBy w' v.ownBlock → wpList Try.prog ops Q rest (a.put o.dst v') w') : wpList Try.prog ops Q (o :: rest) a w := by
  subst hn
  refine wpList_plain hgd fun K hK => ?_
  cases A with
  | none =>
    obtain rfl := row_gone15 hat
    obtain rfl := hA rfl
    have hrun := run_append_owned_none (P := Try.prog) (w := w) base LT o.type T i0 k hu hi0 v xs.length (xs.flatMap cl) hown
    have hx' : a.eval x = .slice none 0 0 := hx
    unfold Oper.wp
    simp [execOp, ho, resolve, invoke, builtin, hs, hx', hrun, Result.andThen]
    exact hK _ _ (h _ _ (by rw [List.append_nil]; exact hown) ⟨rfl, rfl, rfl, Nat.le_refl _, fun _ _ _ => rfl⟩)
  | some p =>
    obtain ⟨v', w', hrun, r1, r2, _⟩ := run_append_own (P := Try.prog) w base LT o.type T i0 z k bytes hu hi0 hz0 hz1 hz2 hzs hk0 v xs.length (xs.flatMap cl) hown p b.length c (b.flatMap cl) (flat_len hk b) (row_news15 hk hat) (flat_one15 h1 b) hm hl hbase
    unfold Oper.wp
    simp [execOp, ho, resolve, invoke, builtin, hs, hx, hrun, Result.andThen]
    refine hK _ _ (h _ _ ?_ r2)
    unfold RowOwn
    rw [List.length_append, List.flatMap_append]
    exact r1
end
end Go.Proofs.Ytndmnlgancnbkaa

namespace Go.Proofs.Ytndmnlgancnbkaa
open Go.RowKit Go.Lib
set_option linter.unusedVariables false
set_option linter.unusedSimpArgs false
theorem row17_at {w : World} {A : Option Addr} {l : List It} (h : RowAt clH 2 w A l) (h0 : 0 < l.length) : ∃ g off : Nat, A = some ⟨g, off, none⟩ ∧ ∀ i (hi : i < l.length), w.cell? ⟨g, off + i * 2, none⟩ = some (.int .i64 l[i].1) ∧ w.cell? ⟨g, off + i * 2 + 1, none⟩ = some (.int .i64 l[i].2) := by
  obtain ⟨g, off, rfl, _, _⟩ := h 0 h0
  refine ⟨g, off, rfl, fun i hi => ?_⟩
  obtain ⟨g', off', e, _, hc⟩ := h i hi
  injection e with e
  injection e with e1 e2
  subst e1; subst e2
  exact ⟨hc 0 (by decide), hc 1 (by decide)⟩
theorem not_has17 {L : List It} {k : Int} (h : ¬ hasH L k = true) : hasH L k = false := by
  cases e : hasH L k with
  | false => rfl
  | true => exact absurd e h
theorem item_info17 : (Try.prog.info? 64).map (fun i => (i.zero, i.size, i.bytes)) = some (some (.agg #[.int .i64 0, .int .i64 0]), 2, 16) := by kernel_rfl
theorem flat_set217 (l : List It) (i : Nat) (hi : i < l.length) (k p : Int) (hk : (atI l i).1 = k) : (l.flatMap clH).set (i * 2 + 1) (.int .i64 p) = (l.set i (k, p)).flatMap clH := by
  induction l generalizing i with
  | nil => simp at hi
  | cons y t ih =>
    cases i with
    | zero =>
      have : y.1 = k := hk
      subst this
      rfl
    | succ i =>
      have h1 := ih i (by simpa using hi) hk
      rw [List.set_cons_succ, List.flatMap_cons, List.flatMap_cons, ← h1]
      show (([.int .i64 y.1, .int .i64 y.2] : List Value) ++ t.flatMap clH).set ((i + 1) * 2 + 1) _ = _
      rw [show (i + 1) * 2 + 1 = (i * 2 + 1) + 1 + 1 by omega]
      rfl
theorem Ke.set17 {S : Nat → Prop} {w : World} {p : Addr} (hp : S p.block) (u : Value) : Ke S w (w.setCell p u) :=
  ⟨rfl, rfl, rfl, by simp, fun k _ hn => Below.heap_setCell w p u k (fun e => hn (by rw [← e] at hp; exact hp))⟩
theorem Ke.on17 {S : Nat → Prop} {w w' w'' : World} (h : Ke S w w') (h' : Ke S w' w'') : Ke S w w'' := h.trans (Gr.refl _ _) h'
theorem Ke.put_new17 {S : Nat → Prop} {w w' : World} (h : Ke S w w') {p : Addr} (hp : w.heap.size ≤ p.block) (u : Value) : Ke S w (w'.setCell p u) :=
  ⟨h.os, h.tape, h.output, by simpa using h.size, fun k hk hn => (Below.heap_setCell w' p u k (fun e => by rw [e] at hk; exact Nat.not_le_of_lt hk hp)).trans (h.block k hk hn)⟩
theorem St.of_rel17 {S : Nat → Prop} {w w' : World} (hr : Rel w w') : St S S w w' := ⟨Gr.refl _ _, Ke.of_rel hr⟩
theorem row_put217 {w : World} {l : List It} {q n c : Nat} (h : RowOwn 64 clH 2 w 0 (.slice (some ⟨q, 0, none⟩) n c) l) {i : Nat} (hi : i < l.length) (hn : l.length = n) {k p : Int} (hk : (atI l i).1 = k) :
    RowOwn 64 clH 2 (w.setCell ⟨q, i * 2 + 1, none⟩ (.int .i64 p)) 0 (.slice (some ⟨q, 0, none⟩) n c) (l.set i (k, p)) := by
  subst hn
  have h1 := (h.row.stored (i * 2 + 1) (.int .i64 p)).1
  unfold RowOwn
  rw [← flat_set217 l i hi k p hk, List.length_set]
  exact h1
end Go.Proofs.Ytndmnlgancnbkaa

namespace Go.Proofs.Ytndmnlgancnbkaa
open Go.Lib
set_option linter.unusedVariables false
set_option linter.unusedSimpArgs false
def markD (D : List Int) (s : Int) (b : Bool) : List Int := if b then insD D s else remD D s
/-- Behind those of T: what is written, and whether s is. -/
structure MarkI (b : Bool) (s : Int) (T : List Int) (d q : Bool) (out : List Int) : Prop where
  ups : Ups out
  mem : ∀ z, z ∈ out ↔ (z ∈ T ∧ z ≠ s) ∨ (d = true ∧ z = s)
  did : d = true → b = true ∧ ∃ x ∈ T, s < x
  dont : b = true → d = false → ∀ x ∈ T, x ≤ s
  was : q = decide (s ∈ T)
  len : out.length ≤ T.length + 1
theorem mark_nil (b : Bool) (s : Int) : MarkI b s [] false false [] :=
  ⟨ups_nil, (fun z => by simp), (fun h => by cases h), (fun _ _ x hx => absurd hx List.not_mem_nil), (by simp), (by simp)⟩
theorem ups_snoc {L : List Int} {x : Int} (h : Ups L) (hx : ∀ y ∈ L, y < x) : Ups (L ++ [x]) :=
  List.pairwise_append.2 ⟨h, List.pairwise_singleton _ _, fun a ha b hb => by rw [List.mem_singleton] at hb; rw [hb]; exact hx a ha⟩
section
variable {b d q : Bool} {s x : Int} {T out : List Int}
theorem mark_same (h : MarkI b s T d q out) : MarkI b s (T ++ [s]) d true out := by
  refine ⟨h.ups, fun z => ?_, fun hd => ?_, fun hb hd y hy => ?_, by simp, ?_⟩
  · rw [h.mem, List.mem_append, List.mem_singleton]
    constructor
    · rintro (⟨a, c⟩ | c)
      · exact .inl ⟨.inl a, c⟩
      · exact .inr c
    · rintro (⟨a | a, c⟩ | c)
      · exact .inl ⟨a, c⟩
      · exact absurd a c
      · exact .inr c
  · obtain ⟨a, y, hy, hs⟩ := h.did hd
    exact ⟨a, y, List.mem_append_left _ hy, hs⟩
  · rcases List.mem_append.1 hy with hy | hy
    · exact h.dont hb hd y hy
    · rw [List.mem_singleton] at hy; omega
  · have := h.len; rw [List.length_append]; omega
theorem mark_ne (h : MarkI b s T d q out) (hx : x ≠ s) : q = decide (s ∈ T ++ [x]) := by
  rw [h.was]
  have : s ∈ T ++ [x] ↔ s ∈ T := by
    rw [List.mem_append, List.mem_singleton]
    exact ⟨fun q => q.elim id (fun e => absurd e.symm hx), .inl⟩
  by_cases e : s ∈ T
  · rw [decide_eq_true e, decide_eq_true (this.2 e)]
  · rw [decide_eq_false e, decide_eq_false (fun q => e (this.1 q))]
theorem mark_go (h : MarkI b s T d q out) (hT : ∀ y ∈ T, y < x) (hx : x ≠ s) (hc : b = true → d = false → x ≤ s) (hl : d = false → out.length ≤ T.length) : MarkI b s (T ++ [x]) d q (out ++ [x]) ∧ (d = false → (out ++ [x]).length ≤ (T ++ [x]).length) := by
  refine ⟨⟨ups_snoc h.ups fun y hy => ?_, fun z => ?_, fun hd => ?_, fun hb hd y hy => ?_, mark_ne h hx, ?_⟩, fun hd => ?_⟩
  · rcases (h.mem y).1 hy with ⟨a, _⟩ | ⟨hd, rfl⟩
    · exact hT y a
    · obtain ⟨_, z, hz, hs⟩ := h.did hd
      have := hT z hz
      omega
  · rw [List.mem_append, h.mem, List.mem_append, List.mem_singleton]
    constructor
    · rintro ((⟨a, c⟩ | c) | rfl)
      · exact .inl ⟨.inl a, c⟩
      · exact .inr c
      · exact .inl ⟨.inr rfl, hx⟩
    · rintro (⟨a | a, c⟩ | c)
      · exact .inl (.inl ⟨a, c⟩)
      · exact .inr a
      · exact .inl (.inr c)
  · obtain ⟨a, y, hy, hs⟩ := h.did hd
    exact ⟨a, y, List.mem_append_left _ hy, hs⟩
  · rcases List.mem_append.1 hy with hy | hy
    · exact h.dont hb hd y hy
    · rw [List.mem_singleton] at hy; rw [hy]; exact hc hb hd
  · have := h.len; rw [List.length_append, List.length_append]; simp; omega
  · have := hl hd; rw [List.length_append, List.length_append]; simp; omega
theorem mark_in (h : MarkI true s T false q out) (hT : ∀ y ∈ T, y < x) (hx : s < x) (hl : out.length ≤ T.length) : MarkI true s (T ++ [x]) true q (out ++ [s] ++ [x]) := by
  have hlt : ∀ y ∈ out, y < s := fun y hy => by
    rcases (h.mem y).1 hy with ⟨a, c⟩ | ⟨c, _⟩
    · have := h.dont rfl rfl y a; omega
    · cases c
  refine ⟨ups_snoc (ups_snoc h.ups hlt) fun y hy => ?_, fun z => ?_, fun _ => ⟨rfl, x, List.mem_append_right _ (List.mem_singleton.2 rfl), hx⟩, fun _ hd => (by cases hd), mark_ne h (by omega), ?_⟩
  · rcases List.mem_append.1 hy with hy | hy
    · have := hlt y hy; omega
    · rw [List.mem_singleton] at hy; rw [hy]; exact hx
  · rw [List.mem_append, List.mem_append, h.mem, List.mem_append, List.mem_singleton, List.mem_singleton]
    constructor
    · rintro (((⟨a, c⟩ | ⟨c, _⟩) | rfl) | rfl)
      · exact .inl ⟨.inl a, c⟩
      · cases c
      · exact .inr ⟨rfl, rfl⟩
      · exact .inl ⟨.inr rfl, by omega⟩
    · rintro (⟨a | a, c⟩ | ⟨_, c⟩)
      · exact .inl (.inl (.inl ⟨a, c⟩))
      · exact .inr a
      · exact .inl (.inr c)
  · rw [List.length_append, List.length_append, List.length_append]; simp; omega
end
/-- What is written in the end. -/
theorem mark_did {b q : Bool} {s : Int} {D out : List Int} (hD : Ups D) (h : MarkI b s D true q out) : out = markD D s b := by
  obtain ⟨hb, _⟩ := h.did rfl
  subst hb
  refine ups_ext h.ups (insD_ups hD s) fun z => ?_
  rw [h.mem]
  show _ ↔ z ∈ insD D s
  rw [insD_mem]
  by_cases e : z = s
  · exact ⟨fun _ => .inl e, fun _ => .inr ⟨rfl, e⟩⟩
  · exact ⟨fun q => q.elim (fun q => .inr q.1) (fun q => .inl q.2), fun q => q.elim (fun q => absurd q e) (fun q => .inl ⟨q, e⟩)⟩
theorem mark_last {q : Bool} {s : Int} {D out : List Int} (hD : Ups D) (h : MarkI true s D false q out) : out ++ [s] = markD D s true := by
  have hlt : ∀ y ∈ out, y < s := fun y hy => by
    rcases (h.mem y).1 hy with ⟨a, c⟩ | ⟨c, _⟩
    · have := h.dont rfl rfl y a; omega
    · cases c
  refine ups_ext (ups_snoc h.ups hlt) (insD_ups hD s) fun z => ?_
  rw [List.mem_append, List.mem_singleton, h.mem]
  show _ ↔ z ∈ insD D s
  rw [insD_mem]
  by_cases e : z = s
  · exact ⟨fun _ => .inl e, fun _ => .inr e⟩
  · constructor
    · rintro ((⟨a, _⟩ | ⟨c, _⟩) | c)
      · exact .inr a
      · cases c
      · exact .inl c
    · rintro (c | c)
      · exact .inr c
      · exact .inl (.inl ⟨c, e⟩)
theorem mark_off {q : Bool} {s : Int} {D out : List Int} (hD : Ups D) (h : MarkI false s D false q out) : out = markD D s false := by
  refine ups_ext h.ups (remD_ups hD s) fun z => ?_
  rw [h.mem]
  show _ ↔ z ∈ remD D s
  rw [remD_mem]
  exact ⟨fun q => q.elim id (fun c => by cases c.1), .inl⟩
end Go.Proofs.Ytndmnlgancnbkaa

namespace Go.Proofs.Ytndmnlgancnbkaa
open Go.RowKit Go.Lib
set_option linter.unusedVariables false
set_option linter.unusedSimpArgs false
abbrev clI17 (x : Int) : List Value := [.int .i64 x]
theorem int_info17 : (Try.prog.info? 3).map (fun i => (i.zero, i.size, i.bytes)) = some (some (.int .i64 0), 1, 8) := by kernel_rfl
theorem one_cell17 (n : Int) : ∀ u ∈ [Value.int .i64 n], u.oneCell' = true := by
  intro u hu; rw [List.mem_singleton] at hu; subst hu; rfl
theorem news17 (w : World) (v : Value) (T : TypeId) : ∀ j u, [v][j]? = some u → (w.alloc (.cells #[v] T)).cell? ((⟨w.heap.size, 0, none⟩ : Addr).add j) = some u := by
  intro j u h
  match j with
  | 0 => injection h with h; subst h; exact (Bk.new w T #[v]).cell 0
  | j + 1 => cases h
theorem nums_of {w : World} {A : Option Addr} {c : Nat} {L : List Int} {base : Nat} (h : RowOwn 3 clI17 1 w base (.slice A L.length c) L) (hz : ∀ z ∈ L, i64 z) : Nums w A c L ∧ ∀ a, A = some a → base ≤ a.block ∧ a.block < w.heap.size := by
  have hat := RowOwn.at (cl := clI17) (k := 1) (fun _ => rfl) h rfl
  rcases h.row.2 with ⟨hv, hn⟩ | ⟨g, cap, cur, hv, hb, hh, hl, hm, _⟩
  · injection hv with hA _ hc
    subst hA; subst hc
    have : L = [] := List.eq_nil_of_length_eq_zero hn
    subst this
    exact ⟨⟨Nat.le_refl _, Nat.zero_le _, hz, fun i hi => absurd hi (Nat.not_lt_zero i)⟩, fun a ha => by cases ha⟩
  · injection hv with hA _ hc
    subst hA; subst hc
    refine ⟨⟨hl, hm, hz, fun i hi => ?_⟩, fun a ha => by injection ha with ha; subst ha; exact ⟨hb, Bk.lt (t := 3) hh⟩⟩
    obtain ⟨g', off, e, hg, hc⟩ := hat i hi
    injection e with e
    injection e with e1 e2
    subst e1; subst e2
    have h0 : w.cell? ⟨g, 0 + i * 1 + 0, none⟩ = some (.int .i64 L[i]) := hc 0 (by decide)
    refine ⟨⟨g, 0, none⟩, rfl, Bk.lt (t := 3) hh, ?_⟩
    by_cases e : i = 0
    · subst e; exact h0
    · have : (⟨g, 0, none⟩ : Addr).add i = ⟨g, 0 + i * 1 + 0, none⟩ := by simp [Addr.add, e]
      rw [this]; exact h0
theorem nums_cell {w wr : World} {A : Option Addr} {c : Nat} {L : List Int} (h : Nums w A c L) (hr : Rel w wr) (k : Nat) (hk : k < L.length) : ∃ (a : Addr) (z : Int), A = some a ∧ wr.cell? (a.add k) = some (.int .i64 z) ∧ L[k] = z ∧ i64 z ∧ a.block < w.heap.size := by
  obtain ⟨a, e, hb, hc⟩ := h.2.2.2 k hk
  obtain ⟨a', e', _, hc'⟩ := (h.rel hr).2.2.2 k hk
  rw [e] at e'
  injection e' with e'
  subst e'
  exact ⟨a, L[k], e, hc', rfl, h.2.2.1 _ (List.getElem_mem hk), hb⟩
set_option maxRecDepth 100000 in
set_option maxHeartbeats 8000000 in
/-- Two rows that are one in what they hold. -/
theorem ints17_any {A A2 : Option Addr} {c c2 : Nat} {L : List Int} (w : World) (hr : Rel w w) (h : Nums w A c L) (h2 : Nums w A2 c2 L) :
    Calls Try.prog 18 #[.slice A L.length c, .slice A2 L.length c2] w fun e w' => e = .returned (.bool true) ∧ Rel w w' := by
  obtain ⟨n, hn⟩ : ∃ n, L.length = n := ⟨_, rfl⟩
  have hn9 : n ≤ 9223372036854775807 := by rw [← hn]; have h1 := h.1; have h2 := h.2.1; unfold maxLen at h2; omega
  have HN := Lib.hid hn
  have HA := Lib.hid h
  have HB := Lib.hid h2
  have HR := Lib.hid hr
  rw [hn]
  clear h h2 hr hn
  go_enter Try.func18, Try.ntmps18
  go_wp2_with (fail)
  go_loopw [5] (fun i wr => ∃ j : Nat, j ≤ n ∧ i = .int .i64 (j : Int) ∧ Hid (Rel w wr)) (fun i _ => n - (RowKit.intOf i).toNat)
  case atStart => exact ⟨0, Nat.zero_le _, rfl, HR⟩
  case round =>
    obtain ⟨j, hj, rfl, R1⟩ := hrel
    by_cases hlt : j < n
    · have hij : (j : Int) < (n : Int) := by omega
      have hij0 : (0 : Int) ≤ (j : Int) := by omega
      obtain ⟨a, z, rfl, c0, e0, hz, _⟩ := nums_cell HA.out R1.out j (by rw [HN.out]; exact hlt)
      obtain ⟨b, z2, rfl, c1, e1, _, _⟩ := nums_cell HB.out R1.out j (by rw [HN.out]; exact hlt)
      obtain rfl : z = z2 := e0.symm.trans e1
      clear e0 e1 hz
      go_wp2_with (fail)
      go_quiet (fail)
      have R2 := Lib.hid (R1.out.drewN nq)
      go_wp2_with (fail)
      go_roundw
      case rel => exact ⟨j + 1, by omega, by go_num, R2⟩
      case measure => simp [RowKit.intOf]; omega
    · have hij : ¬ (j : Int) < (n : Int) := by omega
      go_wp2_with (fail)
      go_ret
      exact ⟨rfl, R1.out⟩
end Go.Proofs.Ytndmnlgancnbkaa

namespace Go.Proofs
open Go.Shelf
def Try.lays122_ren : Go.Shelf.Ren := ⟨fun | 122 => 55 | 215 => 65 | n => n, fun | 3 => 3 | 4 => 4 | n => n, fun | n => n⟩
theorem Try.lays122 : Go.Proofs.Lays.n122 Try.prog Try.lays122_ren := {
  mixed := by kernel_rfl
  f122 := Try.func55.trans (congrArg some (by kernel_rfl))
  f215 := Try.func65.trans (congrArg some (by kernel_rfl))
  t3 := Try.underlying3
  a3 := Try.isAgg3
  z3 := Try.sizeOf3
  v3 := Try.zeroValue3
  t4 := Try.underlying4
  a4 := Try.isAgg4
  z4 := Try.sizeOf4
  v4 := Try.zeroValue4 }
open Go.RowKit in
/-- cmp.Compare at int: "Compare returns -1 if x is less than y, 0 if x equals y, +1 if x is greater than y.": IT RETURNS 'Lib.compareInt x y'; the world is as it was. (LAID: no walk: one application.) -/
theorem Try.cmp_Compare_int (x y : Int) (w : World) :
    Calls Try.prog 55 #[.int .i64 x, .int .i64 y] w fun e w' => e = .returned (.int .i64 (Lib.compareInt x y)) ∧ w' = w := Any.cmp_Compare_int Try.lays122 x y w
def Try.sortItem_ren : Go.Shelf.Ren := ⟨fun | 6 => 53 | 15 => 64 | 14 => 63 | 28 => 77 | 29 => 78 | 20 => 69 | 21 => 70 | 22 => 71 | 23 => 72 | 24 => 73 | 25 => 74 | 26 => 75 | 27 => 76 | 46 => 88 | 47 => 89 | 48 => 90 | 49 => 91 | 50 => 92 | 57 => 96 | n => n, fun | 22 => 29 | 24 => 64 | 25 => 83 | 3 => 3 | 39 => 90 | 0 => 0 | 53 => 101 | 55 => 103 | 4 => 4 | 46 => 95 | 45 => 94 | 50 => 41 | 5 => 5 | 9 => 9 | 66 => 109 | 70 => 113 | 76 => 117 | 77 => 118 | n => n, fun | n => n⟩
theorem Try.sortItem : Go.Proofs.SlLaysF0.n6 Try.prog Try.sortItem_ren := {
  mixed := by kernel_rfl
  f6 := ⟨Try.f53.name, by decide, Try.func53.trans (congrArg some (by kernel_rfl))⟩
  f14 := ⟨Try.f63.name, by decide, Try.func63.trans (congrArg some (by kernel_rfl))⟩
  f15 := Try.func64.trans (congrArg some (by kernel_rfl))
  f20 := ⟨Try.f69.name, by decide, Try.func69.trans (congrArg some (by kernel_rfl))⟩
  f21 := ⟨Try.f70.name, by decide, Try.func70.trans (congrArg some (by kernel_rfl))⟩
  f22 := ⟨Try.f71.name, by decide, Try.func71.trans (congrArg some (by kernel_rfl))⟩
  f23 := ⟨Try.f72.name, by decide, Try.func72.trans (congrArg some (by kernel_rfl))⟩
  f24 := ⟨Try.f73.name, by decide, Try.func73.trans (congrArg some (by kernel_rfl))⟩
  f25 := ⟨Try.f74.name, by decide, Try.func74.trans (congrArg some (by kernel_rfl))⟩
  f26 := ⟨Try.f75.name, by decide, Try.func75.trans (congrArg some (by kernel_rfl))⟩
  f27 := ⟨Try.f76.name, by decide, Try.func76.trans (congrArg some (by kernel_rfl))⟩
  f28 := Try.func77.trans (congrArg some (by kernel_rfl))
  f29 := Try.func78.trans (congrArg some (by kernel_rfl))
  f46 := ⟨Try.f88.name, by decide, Try.func88.trans (congrArg some (by kernel_rfl))⟩
  f47 := Try.func89.trans (congrArg some (by kernel_rfl))
  f48 := Try.func90.trans (congrArg some (by kernel_rfl))
  f49 := ⟨Try.f91.name, by decide, Try.func91.trans (congrArg some (by kernel_rfl))⟩
  f50 := ⟨Try.f92.name, by decide, Try.func92.trans (congrArg some (by kernel_rfl))⟩
  f57 := ⟨Try.f96.name, by decide, Try.func96.trans (congrArg some (by kernel_rfl))⟩
  t0 := Try.underlying0
  a0 := Try.isAgg0
  z0 := Try.sizeOf0
  v0 := Try.zeroValue0
  t3 := Try.underlying3
  a3 := Try.isAgg3
  z3 := Try.sizeOf3
  v3 := Try.zeroValue3
  t4 := Try.underlying4
  a4 := Try.isAgg4
  z4 := Try.sizeOf4
  v4 := Try.zeroValue4
  t5 := Try.underlying5
  a5 := Try.isAgg5
  z5 := Try.sizeOf5
  v5 := Try.zeroValue5
  t9 := Try.underlying9
  a9 := Try.isAgg9
  z9 := Try.sizeOf9
  v9 := Try.zeroValue9
  t22 := Try.underlying29
  a22 := Try.isAgg29
  z22 := Try.sizeOf29
  v22 := Try.zeroValue29
  t25 := Try.underlying83
  a25 := Try.isAgg83
  z25 := Try.sizeOf83
  v25 := Try.zeroValue83
  t39 := Try.underlying90
  a39 := Try.isAgg90
  z39 := Try.sizeOf90
  v39 := Try.zeroValue90
  t45 := Try.underlying94
  a45 := Try.isAgg94
  z45 := Try.sizeOf94
  v45 := Try.zeroValue94
  t46 := Try.underlying95
  a46 := Try.isAgg95
  z46 := Try.sizeOf95
  v46 := Try.zeroValue95
  t50 := Try.underlying41
  a50 := Try.isAgg41
  z50 := Try.sizeOf41
  v50 := Try.zeroValue41
  t53 := Try.underlying101
  a53 := Try.isAgg101
  z53 := Try.sizeOf101
  v53 := Try.zeroValue101
  t55 := Try.underlying103
  a55 := Try.isAgg103
  z55 := Try.sizeOf103
  v55 := Try.zeroValue103
  t66 := Try.underlying109
  a66 := Try.isAgg109
  z66 := Try.sizeOf109
  v66 := Try.zeroValue109
  t70 := Try.underlying113
  a70 := Try.isAgg113
  z70 := Try.sizeOf113
  v70 := Try.zeroValue113
  t76 := Try.underlying117
  a76 := Try.isAgg117
  z76 := Try.sizeOf117
  v76 := Try.zeroValue117
  t77 := Try.underlying118
  a77 := Try.isAgg118
  z77 := Try.sizeOf118
  v77 := Try.zeroValue118 }
def Try.keysQ_ren : Go.Shelf.Ren := ⟨fun | 7 => 42 | 10 => 57 | n => n, fun | 23 => 54 | 26 => 3 | 3 => 60 | 28 => 73 | 0 => 0 | 27 => 72 | 33 => 43 | 4 => 4 | n => n, fun | n => n⟩
theorem Try.keysQ : Go.Proofs.SlLaysZI.n7 Try.prog Try.keysQ_ren := {
  mixed := by kernel_rfl
  f7 := ⟨Try.f42.name, by decide, Try.func42.trans (congrArg some (by kernel_rfl))⟩
  f10 := ⟨Try.f57.name, by decide, Try.func57.trans (congrArg some (by kernel_rfl))⟩
  t0 := Try.underlying0
  a0 := Try.isAgg0
  z0 := Try.sizeOf0
  v0 := Try.zeroValue0
  t4 := Try.underlying4
  a4 := Try.isAgg4
  z4 := Try.sizeOf4
  v4 := Try.zeroValue4
  t23 := Try.underlying54
  a23 := Try.isAgg54
  z23 := Try.sizeOf54
  v23 := Try.zeroValue54
  t26 := Try.underlying3
  a26 := Try.isAgg3
  z26 := Try.sizeOf3
  v26 := Try.zeroValue3
  t27 := Try.underlying72
  a27 := Try.isAgg72
  z27 := Try.sizeOf72
  v27 := Try.zeroValue72
  t28 := Try.underlying73
  a28 := Try.isAgg73
  z28 := Try.sizeOf73
  v28 := Try.zeroValue73
  t33 := Try.underlying43
  a33 := Try.isAgg43
  z33 := Try.sizeOf43
  v33 := Try.zeroValue43 }
def Try.sortedQ_ren : Go.Shelf.Ren := ⟨fun | 6 => 41 | 8 => 50 | 9 => 56 | 11 => 62 | 13 => 64 | 12 => 66 | 23 => 77 | 24 => 78 | 14 => 79 | 15 => 80 | 16 => 81 | 17 => 82 | 18 => 83 | 19 => 84 | 20 => 85 | 21 => 86 | 22 => 87 | 25 => 93 | 26 => 89 | 27 => 90 | 28 => 94 | 29 => 95 | 30 => 65 | 31 => 97 | n => n, fun | 26 => 3 | 28 => 73 | 24 => 32 | 0 => 0 | 3 => 3 | 37 => 90 | 48 => 101 | 50 => 103 | 4 => 4 | 40 => 95 | 39 => 94 | 45 => 41 | 5 => 5 | 9 => 9 | 51 => 109 | 55 => 113 | 57 => 117 | 58 => 118 | 33 => 43 | n => n, fun | n => n⟩
theorem Try.sortedQ : Go.Proofs.SlLaysZI.n6 Try.prog Try.sortedQ_ren := {
  mixed := by kernel_rfl
  f6 := ⟨Try.f41.name, by decide, Try.func41.trans (congrArg some (by kernel_rfl))⟩
  f8 := ⟨Try.f50.name, by decide, Try.func50.trans (congrArg some (by kernel_rfl))⟩
  f11 := ⟨Try.f62.name, by decide, Try.func62.trans (congrArg some (by kernel_rfl))⟩
  t0 := Try.underlying0
  a0 := Try.isAgg0
  z0 := Try.sizeOf0
  v0 := Try.zeroValue0
  t24 := Try.underlying32
  a24 := Try.isAgg32
  z24 := Try.sizeOf32
  v24 := Try.zeroValue32
  t26 := Try.underlying3
  a26 := Try.isAgg3
  z26 := Try.sizeOf3
  v26 := Try.zeroValue3
  t28 := Try.underlying73
  a28 := Try.isAgg73
  z28 := Try.sizeOf73
  v28 := Try.zeroValue73
  i26 := by kernel_rfl }
def Try.collectQ_ren : Go.Shelf.Ren := ⟨fun | 8 => 50 | 11 => 62 | n => n, fun | 26 => 3 | 28 => 73 | 24 => 32 | 0 => 0 | 33 => 43 | 4 => 4 | n => n, fun | n => n⟩
theorem Try.collectQ : Go.Proofs.SlLaysZI.n8 Try.prog Try.collectQ_ren := {
  mixed := by kernel_rfl
  f8 := ⟨Try.f50.name, by decide, Try.func50.trans (congrArg some (by kernel_rfl))⟩
  f11 := ⟨Try.f62.name, by decide, Try.func62.trans (congrArg some (by kernel_rfl))⟩
  t0 := Try.underlying0
  a0 := Try.isAgg0
  z0 := Try.sizeOf0
  v0 := Try.zeroValue0
  t24 := Try.underlying32
  a24 := Try.isAgg32
  z24 := Try.sizeOf32
  v24 := Try.zeroValue32
  t26 := Try.underlying3
  a26 := Try.isAgg3
  z26 := Try.sizeOf3
  v26 := Try.zeroValue3
  t28 := Try.underlying73
  a28 := Try.isAgg73
  z28 := Try.sizeOf73
  v28 := Try.zeroValue73
  i26 := by kernel_rfl }
def Try.sortQ_ren : Go.Shelf.Ren := ⟨fun | 5 => 56 | 8 => 64 | 7 => 66 | 19 => 77 | 20 => 78 | 10 => 79 | 11 => 80 | 12 => 81 | 13 => 82 | 14 => 83 | 15 => 84 | 16 => 85 | 17 => 86 | 18 => 87 | 30 => 93 | 31 => 89 | 32 => 90 | 33 => 94 | 34 => 95 | 35 => 65 | 40 => 97 | n => n, fun | 23 => 32 | 25 => 3 | 3 => 3 | 32 => 90 | 22 => 32 | 0 => 0 | 44 => 101 | 46 => 103 | 4 => 4 | 36 => 95 | 35 => 94 | 41 => 41 | 5 => 5 | 9 => 9 | 53 => 109 | 57 => 113 | 63 => 117 | 64 => 118 | n => n, fun | n => n⟩
theorem Try.sortQ : Go.Proofs.SlLaysM.n5 Try.prog Try.sortQ_ren := {
  mixed := by kernel_rfl
  f5 := ⟨Try.f56.name, by decide, Try.func56.trans (congrArg some (by kernel_rfl))⟩
  f7 := ⟨Try.f66.name, by decide, Try.func66.trans (congrArg some (by kernel_rfl))⟩
  f8 := Try.func64.trans (congrArg some (by kernel_rfl))
  f10 := ⟨Try.f79.name, by decide, Try.func79.trans (congrArg some (by kernel_rfl))⟩
  f11 := ⟨Try.f80.name, by decide, Try.func80.trans (congrArg some (by kernel_rfl))⟩
  f12 := ⟨Try.f81.name, by decide, Try.func81.trans (congrArg some (by kernel_rfl))⟩
  f13 := ⟨Try.f82.name, by decide, Try.func82.trans (congrArg some (by kernel_rfl))⟩
  f14 := ⟨Try.f83.name, by decide, Try.func83.trans (congrArg some (by kernel_rfl))⟩
  f15 := ⟨Try.f84.name, by decide, Try.func84.trans (congrArg some (by kernel_rfl))⟩
  f16 := ⟨Try.f85.name, by decide, Try.func85.trans (congrArg some (by kernel_rfl))⟩
  f17 := ⟨Try.f86.name, by decide, Try.func86.trans (congrArg some (by kernel_rfl))⟩
  f18 := ⟨Try.f87.name, by decide, Try.func87.trans (congrArg some (by kernel_rfl))⟩
  f19 := Try.func77.trans (congrArg some (by kernel_rfl))
  f20 := Try.func78.trans (congrArg some (by kernel_rfl))
  f30 := ⟨Try.f93.name, by decide, Try.func93.trans (congrArg some (by kernel_rfl))⟩
  f31 := Try.func89.trans (congrArg some (by kernel_rfl))
  f32 := Try.func90.trans (congrArg some (by kernel_rfl))
  f33 := ⟨Try.f94.name, by decide, Try.func94.trans (congrArg some (by kernel_rfl))⟩
  f34 := ⟨Try.f95.name, by decide, Try.func95.trans (congrArg some (by kernel_rfl))⟩
  f35 := ⟨Try.f65.name, by decide, Try.func65.trans (congrArg some (by kernel_rfl))⟩
  f40 := ⟨Try.f97.name, by decide, Try.func97.trans (congrArg some (by kernel_rfl))⟩
  t0 := Try.underlying0
  a0 := Try.isAgg0
  z0 := Try.sizeOf0
  v0 := Try.zeroValue0
  t3 := Try.underlying3
  a3 := Try.isAgg3
  z3 := Try.sizeOf3
  v3 := Try.zeroValue3
  t4 := Try.underlying4
  a4 := Try.isAgg4
  z4 := Try.sizeOf4
  v4 := Try.zeroValue4
  t5 := Try.underlying5
  a5 := Try.isAgg5
  z5 := Try.sizeOf5
  v5 := Try.zeroValue5
  t9 := Try.underlying9
  a9 := Try.isAgg9
  z9 := Try.sizeOf9
  v9 := Try.zeroValue9
  t22 := Try.underlying32
  a22 := Try.isAgg32
  z22 := Try.sizeOf32
  v22 := Try.zeroValue32
  t23 := Try.underlying32
  a23 := Try.isAgg32
  z23 := Try.sizeOf32
  v23 := Try.zeroValue32
  t25 := Try.underlying3
  a25 := Try.isAgg3
  z25 := Try.sizeOf3
  v25 := Try.zeroValue3
  t32 := Try.underlying90
  a32 := Try.isAgg90
  z32 := Try.sizeOf90
  v32 := Try.zeroValue90
  t35 := Try.underlying94
  a35 := Try.isAgg94
  z35 := Try.sizeOf94
  v35 := Try.zeroValue94
  t36 := Try.underlying95
  a36 := Try.isAgg95
  z36 := Try.sizeOf95
  v36 := Try.zeroValue95
  t41 := Try.underlying41
  a41 := Try.isAgg41
  z41 := Try.sizeOf41
  v41 := Try.zeroValue41
  t44 := Try.underlying101
  a44 := Try.isAgg101
  z44 := Try.sizeOf101
  v44 := Try.zeroValue101
  t46 := Try.underlying103
  a46 := Try.isAgg103
  z46 := Try.sizeOf103
  v46 := Try.zeroValue103
  t53 := Try.underlying109
  a53 := Try.isAgg109
  z53 := Try.sizeOf109
  v53 := Try.zeroValue109
  t57 := Try.underlying113
  a57 := Try.isAgg113
  z57 := Try.sizeOf113
  v57 := Try.zeroValue113
  t63 := Try.underlying117
  a63 := Try.isAgg117
  z63 := Try.sizeOf117
  v63 := Try.zeroValue117
  t64 := Try.underlying118
  a64 := Try.isAgg118
  z64 := Try.sizeOf118
  v64 := Try.zeroValue118 }
end Go.Proofs

namespace Go.Proofs.Ytndmnlgancnbkaa
open Go.RowKit Go.Lib
set_option linter.unusedVariables false
set_option linter.unusedSimpArgs false
theorem row_own17 {w : World} {base : Nat} {v : Value} {n : Nat} {L : List Int} (h : w.ownsRow base 3 1 v n (L.map encZ)) (hn : L.length = n) : RowOwn 3 clI17 1 w base v L := by
  have e : ∀ L : List Int, L.flatMap clI17 = L.map encZ := fun L => by
    induction L with
    | nil => rfl
    | cons x t ih => rw [List.flatMap_cons, ih]; rfl
  unfold RowOwn
  rw [e, hn]
  exact h
theorem keys17 (mb : Option Nat) (w : World) :
    Calls Try.prog 42 #[.map mb] w fun e w' => e = .returned (.func (.func 57) #[] #[.pointer (some ⟨w.heap.size, 0, none⟩)]) ∧ w' = w.alloc (.cells #[.map mb] 54) :=
  (callsIn_wide (n := 5)).1 (AnyZI.keys_in Try.keysQ Fence.wide 5 trivial rfl mb w)
theorem gives17 {w : World} {d B : Nat} {M : DataW Value} {n : Nat} (h : w.ownsMap Try.prog 3 unitElem d n M) (hB : B < w.heap.size) (hm : w.cell? ⟨B, 0, none⟩ = some (.map (some d))) (k : Nat) (hk : 1 ≤ k) :
    SeqGives Fence.wide k Try.prog 57 #[.pointer (some ⟨B, 0, none⟩)] encZ (fun ss => ss.Perm (intKeys M)) (Maps.size M) w :=
  AnyZI.keys_gives (ρ := Try.keysQ_ren) { Try.keysQ with } Fence.wide k trivial rfl hk B d n M w hB hm h
theorem collect17 {w : World} {d B : Nat} {D : List Int} (h : DtAt w d D) (hl : D.length ≤ 1000) (hB : B < w.heap.size) (hm : w.cell? ⟨B, 0, none⟩ = some (.map (some d))) :
    Calls Try.prog 50 #[.func (.func 57) #[] #[.pointer (some ⟨B, 0, none⟩)]] w fun e w' => ∃ (v : Value) (ss : List Int), e = .returned v ∧ ss.Perm D ∧ w'.ownsRow w.heap.size 3 1 v ss.length (ss.map encZ) ∧ Below w.heap.size w w' := by
  obtain ⟨M, h1, h2, h3⟩ := h.keys
  refine ((callsIn_wide (n := 5)).1 (AnyZI.collect_in Try.collectQ Fence.wide 5 trivial trivial rfl (by omega) 57 #[.pointer (some ⟨B, 0, none⟩)] trivial (enters_of Try.func57 (by kernel_rfl) rfl) _ _ (by rw [h2]; unfold maxLen; omega) (by rw [h2]; omega) w (gives17 h1 hB hm _ (by omega)))).mono ?_
  rintro e w' ⟨v, ss, he, hp, hr, _, hb⟩
  exact ⟨v, ss, he, hp.trans h3.symm, hr, hb⟩
theorem sorts17 (m : Nat) : AnyZI.SortsIn Try.prog Try.sortedQ_ren Fence.wide m :=
  ⟨fun blk off cap ss W hH hblk hsz => callsIn_wide.2 (AnyM.slices_Sort_int Try.sortQ blk off cap ss W hH hblk hsz),
   fun p cap W => callsIn_wide.2 (AnyM.slices_Sort_int_none Try.sortQ p cap W)⟩
theorem sort_ups {D ss : List Int} (h : Ups D) (hp : ss.Perm D) : (ss.mergeSort fun x y => decide (x ≤ y)) = D := by
  have h1 : (ss.mergeSort fun x y => decide (x ≤ y)).Perm D := (List.mergeSort_perm _ _).trans hp
  have h2 : (ss.mergeSort fun x y => decide (x ≤ y)).Pairwise fun a b => decide (a ≤ b) = true := by
    apply List.pairwise_mergeSort
    · intro a b c h h'
      rw [decide_eq_true_eq] at h h' ⊢
      omega
    · intro a b
      rw [Bool.or_eq_true, decide_eq_true_eq, decide_eq_true_eq]
      omega
  have h3 : (ss.mergeSort fun x y => decide (x ≤ y)).Nodup := h1.nodup_iff.2 (ups_nodup h)
  refine ups_ext ?_ h (fun z => h1.mem_iff)
  refine (h2.and h3).imp fun {a b} q => ?_
  have q1 := of_decide_eq_true q.1
  have q2 := q.2
  omega
/-- What maps.Keys, slices.Collect and slices.Min tell of a set: its least. -/
theorem gather17 {w : World} {d : Nat} {x : Int} {D : List Int} (h : DtAt w d (x :: D)) (hl : (x :: D).length ≤ 1000) (hr : Rel w w) (hz : ∀ z ∈ x :: D, i64 z) :
    Calls Try.prog 50 #[.func (.func 57) #[] #[.pointer (some ⟨w.heap.size, 0, none⟩)]] (w.alloc (.cells #[.map (some d)] 54)) fun e w' => ∃ (A : Option Addr) (c : Nat) (ss : List Int), e = .returned (.slice A ss.length c) ∧ Hid (Nums w' A c ss) ∧ Hid (∀ z ∈ ss, x ≤ z) ∧ Hid (x ∈ ss) ∧ Hid (Rel w w') := by
  have r1 := hr.alloc (.cells #[.map (some d)] 54)
  refine (collect17 (h.alloc _) hl (B := w.heap.size) (by rw [World.size_alloc]; omega) ((Bk.new w 54 #[.map (some d)]).cell 0)).mono ?_
  rintro e w' ⟨v, ss, rfl, hp, ho, hb⟩
  have hro := row_own17 ho rfl
  obtain ⟨A, c, rfl, _⟩ := hro.slice_of
  refine ⟨A, c, ss, rfl, Lib.hid (nums_of hro (fun z hz' => hz z (hp.mem_iff.1 hz'))).1, Lib.hid (fun z hz' => ?_), Lib.hid (hp.mem_iff.2 (List.mem_cons_self ..)), Lib.hid (r1.step hb)⟩
  rcases List.mem_cons.1 (hp.mem_iff.1 hz') with rfl | hm
  · exact Int.le_refl _
  · exact Int.le_of_lt ((ups_cons.1 h.1).1 z hm)
theorem sorted17 {w : World} {d B : Nat} {D : List Int} (h : DtAt w d D) (hl : D.length ≤ 1000) (hB : B < w.heap.size) (hm : w.cell? ⟨B, 0, none⟩ = some (.map (some d))) :
    Calls Try.prog 41 #[.func (.func 57) #[] #[.pointer (some ⟨B, 0, none⟩)]] w fun e w' => ∃ v : Value, e = .returned v ∧ w'.ownsRow w.heap.size 3 1 v D.length (D.map encZ) ∧ Below w.heap.size w w' := by
  obtain ⟨M, h1, h2, h3⟩ := h.keys
  refine ((callsIn_wide (n := 5)).1 (AnyZI.sorted_in Try.sortedQ Fence.wide 5 trivial trivial trivial trivial rfl (by omega) (sorts17 _) (enters_of Try.func56 (by kernel_rfl) rfl) 57 #[.pointer (some ⟨B, 0, none⟩)] trivial (enters_of Try.func57 (by kernel_rfl) rfl) _ _ (by rw [h2]; unfold maxLen; omega) (by rw [h2]; omega) w (gives17 h1 hB hm _ (by omega)))).mono ?_
  rintro e w' ⟨v, ss, he, hp, hr, _, hb⟩
  have hpd : ss.Perm D := hp.trans h3.symm
  rw [sort_ups h.1 hpd, hpd.length_eq] at hr
  exact ⟨v, he, hr, hb⟩
end Go.Proofs.Ytndmnlgancnbkaa
