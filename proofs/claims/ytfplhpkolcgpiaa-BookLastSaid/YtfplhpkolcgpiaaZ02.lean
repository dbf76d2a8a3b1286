/- Appends of layer 13's landed code: a slice onto a row of the call's own, whatever comes in; zeros onto nothing; slices.Clone, Grow and Concat at the landed code's types. -/
import Derived.Test.YtfplhpkolcgpiaaZL
import Derived.Test.YtfplhpkolcgpiaaZ00
import Derived.Test.YtfplhpkolcgpiaaZ01
namespace Go.Proofs.Ytfplhpkolcgpiaa
open Go.RowKit Go.Lib
set_option linter.unusedVariables false
set_option linter.unusedSimpArgs false
section
variable {α : Type} {cl : α → List Value} {k : Nat}
theorem row_gone {w : World} {b : List α} (h : RowAt cl k w none b) : b = [] := by
  cases b with
  | nil => rfl
  | cons x r => obtain ⟨g, off, e, _⟩ := h 0 (by simp); cases e
theorem row_news (hk : ∀ x, (cl x).length = k) {w : World} {p : Addr} {b : List α} (h : RowAt cl k w (some p) b) : ∀ (j : Nat) (u : Value), (b.flatMap cl)[j]? = some u → w.cell? (p.add j) = some u := fun j u hu => by
  have hj : j < b.length * k := by
    rcases Nat.lt_or_ge j (b.length * k) with h' | h'
    · exact h'
    · rw [List.getElem?_eq_none (by rw [flat_len hk]; exact h')] at hu; cases hu
  have hk0 : 0 < k := by
    rcases Nat.eq_zero_or_pos k with h0 | h0
    · rw [h0, Nat.mul_zero] at hj; omega
    · exact h0
  have e : j = j / k * k + j % k := (Nat.div_add_mod' j k).symm
  have h1 : j / k < b.length := Nat.div_lt_of_lt_mul (by rw [Nat.mul_comm]; exact hj)
  have h2 : j % k < k := Nat.mod_lt _ hk0
  obtain ⟨g', off', e1, _, hc⟩ := h (j / k) h1
  injection e1 with e1
  subst e1
  rw [add_any, e, ← Nat.add_assoc, hc (j % k) h2]
  rw [e, flat_at hk b (j / k) h1 (j % k) h2] at hu
  exact hu
theorem row_own_mono {T : TypeId} {w : World} {base base' : Nat} {v : Value} {xs : List α} (h : RowOwn T cl k w base v xs) (hb : base' ≤ base) : RowOwn T cl k w base' v xs := own_mono h hb
/-- A slice, whatever it is, appended onto a row of the call's own. -/
theorem wpList_onto {w : World} {ops : Array Oper} {rest : List Oper} {o : Oper} {a : Act} {Q : Exit → Act → World → Prop} (T LT : TypeId) (i0 : TypeInfo) (z : Value) (bytes : Nat) (hu : Try.prog.underlying LT = some (.slice T)) (hi0 : Try.prog.info? T = some i0) (hz0 : i0.zero = some z) (hz1 : i0.size = k) (hz2 : i0.bytes = bytes) (hzs : z.cells.size = k) (hk0 : 0 < k)
    (hk : ∀ x, (cl x).length = k) (h1 : ∀ x, ∀ u ∈ cl x, u.oneCell' = true) (hgd : o.guard = none) (s x : Operand)
    (ho : o.op = .call { callee := .builtin .append, args := #[s, x], argTypes := #[LT, LT] }) (base : Nat) (v : Value) (xs : List α) (hs : a.eval s = v) (hown : RowOwn T cl k w base v xs) (A : Option Addr) (n c : Nat) (b : List α) (hn : b.length = n) (hx : a.eval x = .slice A n c)
    (hat : RowAt cl k w A b) (hA : A = none → c = 0) (hl : (xs.length + b.length) * bytes ≤ 140737488355328) (hm : xs.length + b.length ≤ maxLen) (hbase : base ≤ w.heap.size)
    (h : ∀ v' w', RowOwn T cl k w' base v' (xs ++ b) → w.grownBy w' v.ownBlock → wpList Try.prog ops Q rest (a.put o.dst v') w') : wpList Try.prog ops Q (o :: rest) a w := by
  subst hn
  refine wpList_plain hgd fun K hK => ?_
  cases A with
  | none =>
    obtain rfl := row_gone hat
    obtain rfl := hA rfl
    have hrun := run_append_owned_none (P := Try.prog) (w := w) base LT o.type T i0 k hu hi0 v xs.length (xs.flatMap cl) hown
    have hx' : a.eval x = .slice none 0 0 := hx
    unfold Oper.wp
    simp [execOp, ho, resolve, invoke, builtin, hs, hx', hrun, Result.andThen]
    exact hK _ _ (h _ _ (by rw [List.append_nil]; exact hown) ⟨rfl, rfl, rfl, Nat.le_refl _, fun _ _ _ => rfl⟩)
  | some p =>
    obtain ⟨v', w', hrun, r1, r2, _⟩ := run_append_own (P := Try.prog) w base LT o.type T i0 z k bytes hu hi0 hz0 hz1 hz2 hzs hk0 v xs.length (xs.flatMap cl) hown p b.length c (b.flatMap cl) (flat_len hk b) (row_news hk hat) (flat_one h1 b) hm hl hbase
    unfold Oper.wp
    simp [execOp, ho, resolve, invoke, builtin, hs, hx, hrun, Result.andThen]
    refine hK _ _ (h _ _ ?_ r2)
    unfold RowOwn
    rw [List.length_append, List.flatMap_append]
    exact r1
end
/-- append of made zeros, onto nil. -/
theorem run_append_made {P : Program} (w : World) (t u ty e : TypeId) (i : TypeInfo) (z : Value) (ht : P.underlying t = some (.slice e)) (hu : P.underlying u = some (.int .i64)) (hi : P.info? e = some i) (hz : i.zero = some z) (n : Nat) (h0 : 0 < n) (hs : i.size ≠ 0) (h63 : (n : Int) ≤ 9223372036854775807) (h48 : n * i.bytes ≤ 281474976710656) :
    (Builtin.append_ #[t, u] ty #[.slice none 0 0, .int .i64 (n : Int)]).run P w =
      .ok (.slice (some ⟨w.heap.size, 0, none⟩) n (grownCap w n 0 e)) (w.drew.alloc (.cells (Builtin.zeroCells z.cells n ++ Builtin.zeroCells z.cells (grownCap w n 0 e - n)) e)) := by
  have hn : n ≠ 0 := by omega
  have hw : IntKind.i64.wrap (n : Int) = (n : Int) := by rw [IntKind.wrap_i64]; omega
  have hneg : ¬ (n : Int) < 0 := by omega
  have h48i : ¬ (281474976710656 : Int) < (n : Int) * (i.bytes : Int) := by
    have : ((n * i.bytes : Nat) : Int) ≤ 281474976710656 := by omega
    rw [Int.natCast_mul] at this; omega
  have h63' : ¬ (9223372036854775807 < (n : Int)) := by omega
  have h48' : ¬ (281474976710656 < Builtin.nextslicecap n 0 * i.bytes) := by rw [nextslicecap_zero h0]; omega
  simp [Builtin.append_, run_underlying ht, run_underlying hu, sizeOf, typeInfo, zeroValue, asInt, asIntOf, hi, hz, hw, hneg, h48i, Builtin.lenOf, hn, hs, h63', h48', Question.forced, run_firstCells_none, newRow, grownCap]
  exact fun hc => absurd hc (Nat.mul_ne_zero hn hs)
theorem wpList_made {P : Program} {w : World} {ops : Array Oper} {rest : List Oper} {o : Oper} {a : Act} {Q : Exit → Act → World → Prop} (t u e : TypeId) (i : TypeInfo) (z : Value) (k bytes : Nat) (ht : P.underlying t = some (.slice e)) (hu : P.underlying u = some (.int .i64)) (hi : P.info? e = some i) (hz : i.zero = some z) (hz1 : i.size = k) (hz2 : i.bytes = bytes) (hzs : z.cells.size = k) (hk0 : 0 < k)
    (hgd : o.guard = none) (s x : Operand) (ho : o.op = .call { callee := .builtin .append, args := #[s, x], argTypes := #[t, u] }) (n : Nat) (hs : a.eval s = .slice none 0 0) (hx : a.eval x = .int .i64 (n : Int)) (h0 : 0 < n) (hm : n ≤ maxLen) (hl : n * bytes ≤ 140737488355328)
    (h : ∀ g c w', w'.ownsRow w.heap.size e k (.slice (some ⟨g, 0, none⟩) 0 c) 0 [] → n ≤ c → w.grownBy w' none → wpList P ops Q rest (a.put o.dst (.slice (some ⟨g, 0, none⟩) n c)) w') : wpList P ops Q (o :: rest) a w := by
  subst hz1
  subst hz2
  have h63 : (n : Int) ≤ 9223372036854775807 := by unfold maxLen at hm; omega
  have hrun := run_append_made (P := P) w t u o.type e i z ht hu hi hz n h0 (by omega) h63 (by omega)
  refine wpList_plain hgd fun K hK => ?_
  unfold Oper.wp
  simp [execOp, ho, resolve, invoke, builtin, hs, hx, hrun, Result.andThen]
  have hge := grownCap_ge w n 0 e
  refine hK _ _ (h _ _ _ ?_ hge ?_)
  · refine ⟨by simp, .inr ⟨w.heap.size, _, _, rfl, Nat.le_refl _, heap_alloc_new w.drew _, Nat.zero_le _, grownCap_le_maxLen w n 0 e hm, ?_, by simp⟩⟩
    simp only [Array.size_append, size_zeroCells, hzs, ← Nat.add_mul]
    congr 1; omega
  · exact ⟨rfl, rfl, rfl, by simp, fun q hq _ => (heap_alloc_old w.drew _ hq)⟩
end Go.Proofs.Ytfplhpkolcgpiaa

namespace Go.Proofs.Ytfplhpkolcgpiaa
open Go.RowKit Go.Lib
set_option linter.unusedVariables false
set_option linter.unusedSimpArgs false
/-- slices.Clone. -/
theorem clone_slot (b : List Sl) (A : Option Addr) (c : Nat) (w : World) (hr : Rel w w) (hb : SlArg w A c b) :
    Calls Try.prog 41 #[.slice A b.length c] w fun e w' => ∃ A2 c2, e = .returned (.slice A2 b.length c2) ∧ BkOwn w' w.heap.size (.slice A2 b.length c2) b ∧ Rel w w' := by
  obtain ⟨hA, _, hlen, _, hat⟩ := hb
  have hq := fun (w : World) (a : Option Addr) (n c : Nat) => run_eql_slice_nil (P := Try.prog) w 23 50 a n c 0 0 Try.underlying23
  obtain ⟨i0, hi0, hz0, hz1, hz2⟩ := info_parts slot_info
  have HB := Lib.hid hat
  have HA := Lib.hid hA
  have HR := Lib.hid hr
  clear hat hA hr
  cases A with
  | none =>
    obtain rfl := row_gone HB.out
    obtain rfl := HA.out rfl
    go_enter Try.func41, Try.ntmps41
    go_wp2_with (fail)
    go_ret
    exact ⟨none, 0, rfl, RowOwn.nil _ _ _, HR.out⟩
  | some p =>
    have HRow := Lib.hid (show RowOwn 50 cl3 3 (w.alloc (.cells #[] 50)) w.heap.size (.slice (some ⟨w.heap.size, 0, none⟩) 0 0) [] from World.ownsRow_made w #[] 0 (Nat.le_refl _) (Nat.zero_le _) (by simp))
    have HB2 := Lib.hid (HB.out.rel (HR.out.alloc (.cells #[] 50)))
    go_enter Try.func41, Try.ntmps41
    go_wp2_with (at_builtin; (refine wpList_onto 50 23 i0 (.agg #[.string ⟨#[]⟩, .int .i64 0, .int .i64 0]) 32 Try.underlying23 hi0 hz0 hz1 hz2 rfl (by decide) cl3_len cl3_one rfl _ _ rfl w.heap.size (.slice (some ⟨w.heap.size, 0, none⟩) 0 0) [] rfl HRow.out (some p) b.length c b rfl rfl HB2.out (fun e => by cases e) (by rw [List.length_nil]; omega) (by rw [List.length_nil]; unfold maxLen; omega) (by rw [World.size_alloc]; omega) ?_); intro v2 w2 own2 gr2; obtain ⟨A2, c2, rfl, _⟩ := own2.slice_of; have O2 := Lib.hid own2; have G2 := Lib.hid gr2; clear own2 gr2)
    go_ret
    exact ⟨A2, c2, rfl, O2.out, (HR.out.alloc _).grown G2.out (fun q hq => by have h : w.heap.size = q := (by simpa [Value.ownBlock] using hq); omega)⟩
/-- slices.Grow of nil. -/
theorem grow_slot (n : Nat) (hn : n ≤ 4398046511104) (w : World) (hr : Rel w w) :
    Calls Try.prog 61 #[.slice none 0 0, .int .i64 (n : Int)] w fun e w' => ∃ A c, e = .returned (.slice A 0 c) ∧ BkOwn w' w.heap.size (.slice A 0 c) [] ∧ Rel w w' := by
  obtain ⟨i0, hi0, hz0, hz1, hz2⟩ := info_parts slot_info
  have HR := Lib.hid hr
  clear hr
  by_cases h0 : n = 0
  · subst h0
    go_enter Try.func61, Try.ntmps61
    go_wp2_with (fail)
    go_ret
    exact ⟨none, 0, rfl, RowOwn.nil _ _ _, HR.out⟩
  · have h1 : (0 : Int) < (n : Int) := by omega
    go_enter Try.func61, Try.ntmps61
    go_wp2_with (at_builtin; (refine wpList_made 23 3 50 i0 (.agg #[.string ⟨#[]⟩, .int .i64 0, .int .i64 0]) 3 32 Try.underlying23 Try.underlying3 hi0 hz0 hz1 hz2 rfl (by decide) rfl _ _ rfl n rfl rfl (by omega) (by unfold maxLen; omega) (by omega) ?_); intro g2 c2 w2 own2 hc2 gr2; have O2 := Lib.hid own2; have G2 := Lib.hid gr2; clear own2 gr2)
    go_ret
    exact ⟨_, _, rfl, O2.out, HR.out.grown G2.out (fun q hq => by cases hq)⟩
/-- slices.Clone. -/
theorem clone_seen (b : List Sn) (A : Option Addr) (c : Nat) (w : World) (hr : Rel w w) (hb : SnArg w A c b) :
    Calls Try.prog 47 #[.slice A b.length c] w fun e w' => ∃ A2 c2, e = .returned (.slice A2 b.length c2) ∧ SnOwn w' w.heap.size (.slice A2 b.length c2) b ∧ Rel w w' := by
  obtain ⟨hA, _, hlen, _, hat⟩ := hb
  have hq := fun (w : World) (a : Option Addr) (n c : Nat) => run_eql_slice_nil (P := Try.prog) w 43 72 a n c 0 0 Try.underlying43
  obtain ⟨i0, hi0, hz0, hz1, hz2⟩ := info_parts seen_info
  have HB := Lib.hid hat
  have HA := Lib.hid hA
  have HR := Lib.hid hr
  clear hat hA hr
  cases A with
  | none =>
    obtain rfl := row_gone HB.out
    obtain rfl := HA.out rfl
    go_enter Try.func47, Try.ntmps47
    go_wp2_with (fail)
    go_ret
    exact ⟨none, 0, rfl, RowOwn.nil _ _ _, HR.out⟩
  | some p =>
    have HRow := Lib.hid (show RowOwn 72 cl2 2 (w.alloc (.cells #[] 72)) w.heap.size (.slice (some ⟨w.heap.size, 0, none⟩) 0 0) [] from World.ownsRow_made w #[] 0 (Nat.le_refl _) (Nat.zero_le _) (by simp))
    have HB2 := Lib.hid (HB.out.rel (HR.out.alloc (.cells #[] 72)))
    go_enter Try.func47, Try.ntmps47
    go_wp2_with (at_builtin; (refine wpList_onto 72 43 i0 (.agg #[.string ⟨#[]⟩, .int .i64 0]) 24 Try.underlying43 hi0 hz0 hz1 hz2 rfl (by decide) cl2_len cl2_one rfl _ _ rfl w.heap.size (.slice (some ⟨w.heap.size, 0, none⟩) 0 0) [] rfl HRow.out (some p) b.length c b rfl rfl HB2.out (fun e => by cases e) (by rw [List.length_nil]; omega) (by rw [List.length_nil]; unfold maxLen; omega) (by rw [World.size_alloc]; omega) ?_); intro v2 w2 own2 gr2; obtain ⟨A2, c2, rfl, _⟩ := own2.slice_of; have O2 := Lib.hid own2; have G2 := Lib.hid gr2; clear own2 gr2)
    go_ret
    exact ⟨A2, c2, rfl, O2.out, (HR.out.alloc _).grown G2.out (fun q hq => by have h : w.heap.size = q := (by simpa [Value.ownBlock] using hq); omega)⟩
/-- slices.Grow of nil. -/
theorem grow_seen (n : Nat) (hn : n ≤ 4398046511104) (w : World) (hr : Rel w w) :
    Calls Try.prog 65 #[.slice none 0 0, .int .i64 (n : Int)] w fun e w' => ∃ A c, e = .returned (.slice A 0 c) ∧ SnOwn w' w.heap.size (.slice A 0 c) [] ∧ Rel w w' := by
  obtain ⟨i0, hi0, hz0, hz1, hz2⟩ := info_parts seen_info
  have HR := Lib.hid hr
  clear hr
  by_cases h0 : n = 0
  · subst h0
    go_enter Try.func65, Try.ntmps65
    go_wp2_with (fail)
    go_ret
    exact ⟨none, 0, rfl, RowOwn.nil _ _ _, HR.out⟩
  · have h1 : (0 : Int) < (n : Int) := by omega
    go_enter Try.func65, Try.ntmps65
    go_wp2_with (at_builtin; (refine wpList_made 43 3 72 i0 (.agg #[.string ⟨#[]⟩, .int .i64 0]) 2 24 Try.underlying43 Try.underlying3 hi0 hz0 hz1 hz2 rfl (by decide) rfl _ _ rfl n rfl rfl (by omega) (by unfold maxLen; omega) (by omega) ?_); intro g2 c2 w2 own2 hc2 gr2; have O2 := Lib.hid own2; have G2 := Lib.hid gr2; clear own2 gr2)
    go_ret
    exact ⟨_, _, rfl, O2.out, HR.out.grown G2.out (fun q hq => by cases hq)⟩
set_option maxRecDepth 100000 in
set_option maxHeartbeats 8000000 in
/-- slices.Concat of two. -/
theorem concat_slot (b d : List Sl) (A A' : Option Addr) (c c' g : Nat) (w : World) (hr : Rel w w) (hb : RowAt cl3 3 w A b) (hA : A = none → c = 0) (hd : RowAt cl3 3 w A' d) (hA' : A' = none → c' = 0) (hl : b.length + d.length ≤ 4398046511104) (hg : Bk w g 23 #[.slice A b.length c, .slice A' d.length c']) :
    Calls Try.prog 42 #[.slice (some ⟨g, 0, none⟩) 2 2] w fun e w' => ∃ A2 c2, e = .returned (.slice A2 (b ++ d).length c2) ∧ BkOwn w' w.heap.size (.slice A2 (b ++ d).length c2) (b ++ d) ∧ Rel w w' := by
  obtain ⟨i0, hi0, hz0, hz1, hz2⟩ := info_parts slot_info
  have HB := Lib.hid hb
  have HD := Lib.hid hd
  have HA := Lib.hid hA
  have HA' := Lib.hid hA'
  have HR := Lib.hid hr
  have HG := Lib.hid hg
  obtain ⟨⟨g0, g1⟩, _⟩ := hg.two
  obtain ⟨n, hn⟩ : ∃ n, b.length = n := ⟨_, rfl⟩
  obtain ⟨m, hm⟩ : ∃ n, d.length = n := ⟨_, rfl⟩
  rw [hn] at g0 hl
  rw [hm] at g1 hl
  have HN := Lib.hid hn
  have HM := Lib.hid hm
  obtain ⟨N, hN⟩ : ∃ N, n + m = N := ⟨_, rfl⟩
  rw [hN] at hl
  have HGr := Lib.hid (fun (w : World) (h : Rel w w) => grow_slot N hl w h)
  have hs1 : IntKind.i64.wrap ((n : Int) + (m : Int)) = (N : Int) := by rw [IntKind.wrap_i64]; omega
  have HNM := Lib.hid hN
  have hn0 : n ≤ N := by omega
  clear hb hd hA hA' hr hg hn hm hN
  go_enter Try.func42, Try.ntmps42
  go_wp2_with (fail)
  go_loopw [3, 5, 11] (fun s _ i wr => ((i = .int .i64 0 ∧ s = .int .i64 0) ∨ (i = .int .i64 1 ∧ s = .int .i64 (n : Int)) ∨ (i = .int .i64 2 ∧ s = .int .i64 (N : Int))) ∧ w = wr) (fun _ _ i _ => 2 - (RowKit.intOf i).toNat)
  case atStart => exact ⟨.inl ⟨rfl, rfl⟩, by first | exact rfl | exact trivial⟩
  case round =>
    obtain ⟨hi, hw⟩ := hrel
    subst hw
    rcases hi with ⟨rfl, rfl⟩ | ⟨rfl, rfl⟩ | ⟨rfl, rfl⟩
    · go_wp2_with (fail)
      go_roundw
      case rel => exact ⟨.inr (.inl ⟨rfl, rfl⟩), by first | exact rfl | exact trivial⟩
      case measure => simp [RowKit.intOf]
    · go_wp2_with (fail)
      go_roundw
      case rel => exact ⟨.inr (.inr ⟨rfl, rfl⟩), by first | exact rfl | exact trivial⟩
      case measure => simp [RowKit.intOf]
    · go_wp2_with (go_at_call 61; (with_reducible refine (HGr.out _ HR.out).mono ?_); rintro e w1 ⟨A1, c1, rfl, own1, r1⟩; have O1 := Lib.hid own1; have R1 := Lib.hid r1; clear own1 r1)
      go_loopw [6, 8, 27] (fun v _ i wr => ∃ (A3 : Option Addr) (L c3 : Nat) (o : List Sl), v = .slice A3 L c3 ∧ Hid (o.length = L) ∧ Hid (BkOwn wr w.heap.size (.slice A3 L c3) o) ∧ Hid (Rel w wr) ∧ ((i = .int .i64 0 ∧ o = []) ∨ (i = .int .i64 1 ∧ o = b) ∨ (i = .int .i64 2 ∧ o = b ++ d))) (fun _ _ i _ => 2 - (RowKit.intOf i).toNat)
      case atStart => exact ⟨A1, 0, c1, [], rfl, Lib.hid rfl, O1, R1, .inl ⟨rfl, rfl⟩⟩
      case round =>
        obtain ⟨A3, L, c3, o, rfl, HL, HO, HRw, hi⟩ := hrel
        have sz := HRw.out.size
        obtain ⟨⟨q0, q1⟩, _⟩ := (HG.out.rel HRw.out).two
        rw [HN.out] at q0
        rw [HM.out] at q1
        rcases hi with ⟨rfl, rfl⟩ | ⟨rfl, rfl⟩ | ⟨rfl, rfl⟩
        · have HB2 := Lib.hid (HB.out.rel HRw.out)
          go_wp2_with (at_builtin; (refine wpList_onto 50 23 i0 (.agg #[.string ⟨#[]⟩, .int .i64 0, .int .i64 0]) 32 Try.underlying23 hi0 hz0 hz1 hz2 rfl (by decide) cl3_len cl3_one rfl _ _ rfl w.heap.size (.slice A3 L c3) [] rfl HO.out A n c b HN.out rfl HB2.out HA.out (by rw [List.length_nil, HN.out]; omega) (by rw [List.length_nil, HN.out]; unfold maxLen; omega) sz ?_); intro v2 w2 own2 gr2; obtain ⟨A2, c2, e2, _⟩ := own2.slice_of; obtain ⟨L2, hL2⟩ : ∃ l, ([] ++ b).length = l := ⟨_, rfl⟩; rw [hL2] at e2; subst e2; have HL2 := Lib.hid hL2; clear hL2; have O2 := Lib.hid own2; have G2 := Lib.hid gr2; clear own2 gr2)
          go_roundw
          case rel => exact ⟨A2, L2, c2, _, rfl, HL2, O2, Lib.hid (HRw.out.grown G2.out (fun q hq => (HO.out.row.lt q hq).1)), .inr (.inl ⟨rfl, rfl⟩)⟩
          case measure => simp [RowKit.intOf]
        · have HB2 := Lib.hid (HD.out.rel HRw.out)
          go_wp2_with (at_builtin; (refine wpList_onto 50 23 i0 (.agg #[.string ⟨#[]⟩, .int .i64 0, .int .i64 0]) 32 Try.underlying23 hi0 hz0 hz1 hz2 rfl (by decide) cl3_len cl3_one rfl _ _ rfl w.heap.size (.slice A3 L c3) o rfl HO.out A' m c' d HM.out rfl HB2.out HA'.out (by rw [HN.out, HM.out, HNM.out]; omega) (by rw [HN.out, HM.out, HNM.out]; unfold maxLen; omega) sz ?_); intro v2 w2 own2 gr2; obtain ⟨A2, c2, e2, _⟩ := own2.slice_of; obtain ⟨L2, hL2⟩ : ∃ l, (o ++ d).length = l := ⟨_, rfl⟩; rw [hL2] at e2; subst e2; have HL2 := Lib.hid hL2; clear hL2; have O2 := Lib.hid own2; have G2 := Lib.hid gr2; clear own2 gr2)
          go_roundw
          case rel => exact ⟨A2, L2, c2, _, rfl, HL2, O2, Lib.hid (HRw.out.grown G2.out (fun q hq => (HO.out.row.lt q hq).1)), .inr (.inr ⟨rfl, rfl⟩)⟩
          case measure => simp [RowKit.intOf]
        · go_wp2_with (fail)
          go_ret
          exact ⟨A3, c3, by (rw [HL.out]; try rfl), by rw [HL.out]; exact HO.out, HRw.out⟩
set_option maxRecDepth 100000 in
set_option maxHeartbeats 8000000 in
/-- slices.Concat of two. -/
theorem concat_seen (b d : List Sn) (A A' : Option Addr) (c c' g : Nat) (w : World) (hr : Rel w w) (hb : RowAt cl2 2 w A b) (hA : A = none → c = 0) (hd : RowAt cl2 2 w A' d) (hA' : A' = none → c' = 0) (hl : b.length + d.length ≤ 4398046511104) (hg : Bk w g 43 #[.slice A b.length c, .slice A' d.length c']) :
    Calls Try.prog 64 #[.slice (some ⟨g, 0, none⟩) 2 2] w fun e w' => ∃ A2 c2, e = .returned (.slice A2 (b ++ d).length c2) ∧ SnOwn w' w.heap.size (.slice A2 (b ++ d).length c2) (b ++ d) ∧ Rel w w' := by
  obtain ⟨i0, hi0, hz0, hz1, hz2⟩ := info_parts seen_info
  have HB := Lib.hid hb
  have HD := Lib.hid hd
  have HA := Lib.hid hA
  have HA' := Lib.hid hA'
  have HR := Lib.hid hr
  have HG := Lib.hid hg
  obtain ⟨⟨g0, g1⟩, _⟩ := hg.two
  obtain ⟨n, hn⟩ : ∃ n, b.length = n := ⟨_, rfl⟩
  obtain ⟨m, hm⟩ : ∃ n, d.length = n := ⟨_, rfl⟩
  rw [hn] at g0 hl
  rw [hm] at g1 hl
  have HN := Lib.hid hn
  have HM := Lib.hid hm
  obtain ⟨N, hN⟩ : ∃ N, n + m = N := ⟨_, rfl⟩
  rw [hN] at hl
  have HGr := Lib.hid (fun (w : World) (h : Rel w w) => grow_seen N hl w h)
  have hs1 : IntKind.i64.wrap ((n : Int) + (m : Int)) = (N : Int) := by rw [IntKind.wrap_i64]; omega
  have HNM := Lib.hid hN
  have hn0 : n ≤ N := by omega
  clear hb hd hA hA' hr hg hn hm hN
  go_enter Try.func64, Try.ntmps64
  go_wp2_with (fail)
  go_loopw [3, 5, 11] (fun s _ i wr => ((i = .int .i64 0 ∧ s = .int .i64 0) ∨ (i = .int .i64 1 ∧ s = .int .i64 (n : Int)) ∨ (i = .int .i64 2 ∧ s = .int .i64 (N : Int))) ∧ w = wr) (fun _ _ i _ => 2 - (RowKit.intOf i).toNat)
  case atStart => exact ⟨.inl ⟨rfl, rfl⟩, by first | exact rfl | exact trivial⟩
  case round =>
    obtain ⟨hi, hw⟩ := hrel
    subst hw
    rcases hi with ⟨rfl, rfl⟩ | ⟨rfl, rfl⟩ | ⟨rfl, rfl⟩
    · go_wp2_with (fail)
      go_roundw
      case rel => exact ⟨.inr (.inl ⟨rfl, rfl⟩), by first | exact rfl | exact trivial⟩
      case measure => simp [RowKit.intOf]
    · go_wp2_with (fail)
      go_roundw
      case rel => exact ⟨.inr (.inr ⟨rfl, rfl⟩), by first | exact rfl | exact trivial⟩
      case measure => simp [RowKit.intOf]
    · go_wp2_with (go_at_call 65; (with_reducible refine (HGr.out _ HR.out).mono ?_); rintro e w1 ⟨A1, c1, rfl, own1, r1⟩; have O1 := Lib.hid own1; have R1 := Lib.hid r1; clear own1 r1)
      go_loopw [6, 8, 27] (fun v _ i wr => ∃ (A3 : Option Addr) (L c3 : Nat) (o : List Sn), v = .slice A3 L c3 ∧ Hid (o.length = L) ∧ Hid (SnOwn wr w.heap.size (.slice A3 L c3) o) ∧ Hid (Rel w wr) ∧ ((i = .int .i64 0 ∧ o = []) ∨ (i = .int .i64 1 ∧ o = b) ∨ (i = .int .i64 2 ∧ o = b ++ d))) (fun _ _ i _ => 2 - (RowKit.intOf i).toNat)
      case atStart => exact ⟨A1, 0, c1, [], rfl, Lib.hid rfl, O1, R1, .inl ⟨rfl, rfl⟩⟩
      case round =>
        obtain ⟨A3, L, c3, o, rfl, HL, HO, HRw, hi⟩ := hrel
        have sz := HRw.out.size
        obtain ⟨⟨q0, q1⟩, _⟩ := (HG.out.rel HRw.out).two
        rw [HN.out] at q0
        rw [HM.out] at q1
        rcases hi with ⟨rfl, rfl⟩ | ⟨rfl, rfl⟩ | ⟨rfl, rfl⟩
        · have HB2 := Lib.hid (HB.out.rel HRw.out)
          go_wp2_with (at_builtin; (refine wpList_onto 72 43 i0 (.agg #[.string ⟨#[]⟩, .int .i64 0]) 24 Try.underlying43 hi0 hz0 hz1 hz2 rfl (by decide) cl2_len cl2_one rfl _ _ rfl w.heap.size (.slice A3 L c3) [] rfl HO.out A n c b HN.out rfl HB2.out HA.out (by rw [List.length_nil, HN.out]; omega) (by rw [List.length_nil, HN.out]; unfold maxLen; omega) sz ?_); intro v2 w2 own2 gr2; obtain ⟨A2, c2, e2, _⟩ := own2.slice_of; obtain ⟨L2, hL2⟩ : ∃ l, ([] ++ b).length = l := ⟨_, rfl⟩; rw [hL2] at e2; subst e2; have HL2 := Lib.hid hL2; clear hL2; have O2 := Lib.hid own2; have G2 := Lib.hid gr2; clear own2 gr2)
          go_roundw
          case rel => exact ⟨A2, L2, c2, _, rfl, HL2, O2, Lib.hid (HRw.out.grown G2.out (fun q hq => (HO.out.row.lt q hq).1)), .inr (.inl ⟨rfl, rfl⟩)⟩
          case measure => simp [RowKit.intOf]
        · have HB2 := Lib.hid (HD.out.rel HRw.out)
          go_wp2_with (at_builtin; (refine wpList_onto 72 43 i0 (.agg #[.string ⟨#[]⟩, .int .i64 0]) 24 Try.underlying43 hi0 hz0 hz1 hz2 rfl (by decide) cl2_len cl2_one rfl _ _ rfl w.heap.size (.slice A3 L c3) o rfl HO.out A' m c' d HM.out rfl HB2.out HA'.out (by rw [HN.out, HM.out, HNM.out]; omega) (by rw [HN.out, HM.out, HNM.out]; unfold maxLen; omega) sz ?_); intro v2 w2 own2 gr2; obtain ⟨A2, c2, e2, _⟩ := own2.slice_of; obtain ⟨L2, hL2⟩ : ∃ l, (o ++ d).length = l := ⟨_, rfl⟩; rw [hL2] at e2; subst e2; have HL2 := Lib.hid hL2; clear hL2; have O2 := Lib.hid own2; have G2 := Lib.hid gr2; clear own2 gr2)
          go_roundw
          case rel => exact ⟨A2, L2, c2, _, rfl, HL2, O2, Lib.hid (HRw.out.grown G2.out (fun q hq => (HO.out.row.lt q hq).1)), .inr (.inr ⟨rfl, rfl⟩)⟩
          case measure => simp [RowKit.intOf]
        · go_wp2_with (fail)
          go_ret
          exact ⟨A3, c3, by (rw [HL.out]; try rfl), by rw [HL.out]; exact HO.out, HRw.out⟩
end Go.Proofs.Ytfplhpkolcgpiaa
