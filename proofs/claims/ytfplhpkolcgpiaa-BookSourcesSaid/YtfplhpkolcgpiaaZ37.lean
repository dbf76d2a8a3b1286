/- The document's own answers of layer 13: is what a source tells newer?. -/
import Derived.Test.YtfplhpkolcgpiaaZL
import Derived.Test.YtfplhpkolcgpiaaZ00
import Derived.Test.YtfplhpkolcgpiaaZ01
import Derived.Test.YtfplhpkolcgpiaaZ09
namespace Go.Proofs.Ytfplhpkolcgpiaa
open Go.RowKit Go.Lib
set_option linter.unusedVariables false
set_option linter.unusedSimpArgs false
theorem flat2_set {b : List Sn} {i : Nat} (hi : i < b.length) (y : Sn) (he : b[i].1 = y.1) : (b.flatMap cl2).set (i * 2 + 1) (.int .i64 y.2) = (b.set i y).flatMap cl2 := by
  induction b generalizing i with
  | nil => simp at hi
  | cons z r ih =>
    rw [List.flatMap_cons]
    cases i with
    | zero =>
      obtain ⟨z1, z2⟩ := z
      obtain ⟨y1, y2⟩ := y
      have he' : z1 = y1 := by simpa using he
      subst he'
      rfl
    | succ i =>
      have e : cl2 z = [.string (B z.1), .int .i64 z.2] := rfl
      rw [e, show (i + 1) * 2 + 1 = i * 2 + 1 + 2 by omega]
      show _ = ((z :: r.set i y)).flatMap cl2
      rw [List.flatMap_cons, ← ih (by simpa using hi) (by simpa using he), e]
      rfl
theorem row2_none {w : World} {b : List Sn} (h : RowAt cl2 2 w none b) : b = [] := by
  cases b with
  | nil => rfl
  | cons x r => obtain ⟨g, off, e, _⟩ := h 0 (by simp); cases e
theorem news2_at {w : World} {g off : Nat} {b : List Sn} (h : RowAt cl2 2 w (some ⟨g, off, none⟩) b) : ∀ (j : Nat) (u : Value), (b.flatMap cl2)[j]? = some u → w.cell? ((⟨g, off, none⟩ : Addr).add j) = some u := fun j u hu => by
  have hj : j < b.length * 2 := by
    rcases Nat.lt_or_ge j (b.length * 2) with h' | h'
    · exact h'
    · rw [List.getElem?_eq_none (by rw [flat_len cl2_len]; exact h')] at hu; cases hu
  have e : j = j / 2 * 2 + j % 2 := by omega
  obtain ⟨g', off', e1, _, hc⟩ := h (j / 2) (by omega)
  injection e1 with e1
  injection e1 with e2 e3
  subst e2; subst e3
  rw [add_any, e, ← Nat.add_assoc, hc (j % 2) (by omega)]
  rw [e, flat_at cl2_len b (j / 2) (by omega) (j % 2) (by omega)] at hu
  exact hu
theorem wpList_copied2 {w : World} {ops : Array Oper} {rest : List Oper} {o : Oper} {a : Act} {Q : Exit → Act → World → Prop} (hgd : o.guard = none) (s x : Operand)
    (ho : o.op = .call { callee := .builtin .append, args := #[s, x], argTypes := #[43, 43] }) (A : Option Addr) (c : Nat) (b : List Sn) (hs : a.eval s = .slice none 0 0) (hx : a.eval x = .slice A b.length c)
    (hat : RowAt cl2 2 w A b) (hA : A = none → c = 0) (hl : b.length * 24 ≤ 140737488355328)
    (h : ∀ v' w', w'.ownsRow w.heap.size 72 2 v' b.length (b.flatMap cl2) → w.grownBy w' none → wpList Try.prog ops Q rest (a.put o.dst v') w') : wpList Try.prog ops Q (o :: rest) a w := by
  obtain ⟨i0, hi0, hz0, hz1, hz2⟩ := info_parts seen_info
  refine wpList_plain hgd fun K hK => ?_
  cases A with
  | none =>
    obtain rfl := row2_none hat
    obtain rfl := hA rfl
    have hrun := run_append_owned_none (P := Try.prog) (w := w) w.heap.size 43 o.type 72 i0 2 Try.underlying43 hi0 (.slice none 0 0) 0 [] (World.ownsRow_nil w _ _ _)
    have hx' : a.eval x = .slice none 0 0 := hx
    unfold Oper.wp
    simp [execOp, ho, resolve, invoke, builtin, hs, hx', hrun, Result.andThen]
    exact hK _ _ (h _ _ (World.ownsRow_nil w _ _ _) ⟨rfl, rfl, rfl, Nat.le_refl _, fun _ _ _ => rfl⟩)
  | some p =>
    have hnews : ∀ (j : Nat) (u : Value), (b.flatMap cl2)[j]? = some u → w.cell? (p.add j) = some u := by
      by_cases hb : b = []
      · intro j u hu; rw [hb] at hu; simp at hu
      · obtain ⟨g, off, e, _⟩ := hat 0 (List.length_pos_iff.2 hb)
        injection e with e
        subst e
        exact news2_at hat
    obtain ⟨v', w', hrun, r1, r2, _⟩ := run_append_own (P := Try.prog) w w.heap.size 43 o.type 72 i0 (.agg #[.string ⟨#[]⟩, .int .i64 0]) 2 24 Try.underlying43 hi0 hz0 hz1 hz2 rfl (by decide) (.slice none 0 0) 0 [] (World.ownsRow_nil w _ _ _) p b.length c (b.flatMap cl2) (flat_len cl2_len b) hnews (flat_one cl2_one b) (by unfold maxLen; omega) (by omega) (Nat.le_refl _)
    unfold Oper.wp
    simp [execOp, ho, resolve, invoke, builtin, hs, hx, hrun, Result.andThen]
    rw [Nat.zero_add, List.nil_append] at r1
    exact hK _ _ (h _ _ r1 r2)
set_option maxRecDepth 100000 in
set_option maxHeartbeats 8000000 in
theorem rfresh_bad0 (l : List Sn) (s : List UInt8) (n : Int) (cn : isName s = false) (A : Option Addr) (c : Nat) (ls : s.length ≤ 9223372036854775807) (w : World) (hr : Rel w w) :
    Calls Try.prog 24 #[.slice A l.length c, .string (B s), .int .i64 n] w (FrPost l s n w) := by
  have hp : freshOk s n = false := by
    unfold freshOk
    rw [cn]
    rfl
  obtain ⟨q1, q2, q3⟩ := fr_no (l := l) hp
  have Q1 := Lib.hid q1
  have Q2 := Lib.hid q2
  have Q3 := Lib.hid q3
  have HN := Lib.hid (rname_list s ls w w hr)
  rw [cn] at HN
  clear hr hp q1 q2 q3 cn
  go_enter Try.func24, Try.ntmps24
  go_wp2_with (go_at_call 34; (with_reducible refine HN.out.mono ?_); rintro e w1 ⟨rfl, h1⟩)
  go_ret3
  exact ⟨none, 0, by rw [Q1.out, Q2.out, Q3.out]; rfl, by rw [Q1.out]; exact RowOwn.nil _ _ _, h1⟩
set_option maxRecDepth 100000 in
set_option maxHeartbeats 8000000 in
theorem rfresh_bad1 (l : List Sn) (s : List UInt8) (n : Int) (cn : isName s = true) (c1 : n < 1) (A : Option Addr) (c : Nat) (ls : s.length ≤ 9223372036854775807) (w : World) (hr : Rel w w) :
    Calls Try.prog 24 #[.slice A l.length c, .string (B s), .int .i64 n] w (FrPost l s n w) := by
  have hp : freshOk s n = false := by
    unfold freshOk
    rw [cn]
    simp only [Bool.true_and, decide_eq_false_iff_not]; omega
  obtain ⟨q1, q2, q3⟩ := fr_no (l := l) hp
  have Q1 := Lib.hid q1
  have Q2 := Lib.hid q2
  have Q3 := Lib.hid q3
  have HN := Lib.hid (rname_list s ls w w hr)
  rw [cn] at HN
  have d1 : decide (n < 1) = true := decide_eq_true c1
  clear hr hp q1 q2 q3 cn
  go_enter Try.func24, Try.ntmps24
  go_wp2_with (go_at_call 34; (with_reducible refine HN.out.mono ?_); rintro e w1 ⟨rfl, h1⟩)
  go_ret3
  exact ⟨none, 0, by rw [Q1.out, Q2.out, Q3.out]; rfl, by rw [Q1.out]; exact RowOwn.nil _ _ _, h1⟩
set_option maxRecDepth 100000 in
set_option maxHeartbeats 8000000 in
theorem rfresh_bad2 (l : List Sn) (s : List UInt8) (n : Int) (cn : isName s = true) (c1 : ¬ n < 1) (c2 : 1000000000000 < n) (A : Option Addr) (c : Nat) (ls : s.length ≤ 9223372036854775807) (w : World) (hr : Rel w w) :
    Calls Try.prog 24 #[.slice A l.length c, .string (B s), .int .i64 n] w (FrPost l s n w) := by
  have hp : freshOk s n = false := by
    unfold freshOk
    rw [cn]
    simp only [Bool.true_and, decide_eq_false_iff_not]; omega
  obtain ⟨q1, q2, q3⟩ := fr_no (l := l) hp
  have Q1 := Lib.hid q1
  have Q2 := Lib.hid q2
  have Q3 := Lib.hid q3
  have HN := Lib.hid (rname_list s ls w w hr)
  rw [cn] at HN
  have d1 : decide (n < 1) = false := decide_eq_false c1
  have e1 : 1 ≤ n := by omega
  have d2 : decide (1000000000000 < n) = true := decide_eq_true c2
  clear hr hp q1 q2 q3 cn
  go_enter Try.func24, Try.ntmps24
  go_wp2_with (go_at_call 34; (with_reducible refine HN.out.mono ?_); rintro e w1 ⟨rfl, h1⟩)
  go_ret3
  exact ⟨none, 0, by rw [Q1.out, Q2.out, Q3.out]; rfl, by rw [Q1.out]; exact RowOwn.nil _ _ _, h1⟩
set_option maxRecDepth 100000 in
set_option maxHeartbeats 8000000 in
theorem rfresh_ok (l : List Sn) (s : List UInt8) (n : Int) (ho : freshOk s n = true) (A : Option Addr) (c : Nat) (w : World) (hr : Rel w w) (hb : SnArg w A c l) :
    Calls Try.prog 24 #[.slice A l.length c, .string (B s), .int .i64 n] w (FrPost l s n w) := by
  obtain ⟨hA, _, hlen, _, hat⟩ := hb
  have HO := Lib.hid ho
  unfold freshOk at ho
  simp only [Bool.and_eq_true, decide_eq_true_eq] at ho
  obtain ⟨cn, n0, n1⟩ := ho
  have hl12 := bname_len cn
  have HN := Lib.hid (rname_list s (by omega) w w hr)
  rw [cn] at HN
  have HB := Lib.hid hat
  have HA := Lib.hid hA
  obtain ⟨i0, hi0, hz0, hz1, hz2⟩ := info_parts seen_info
  obtain ⟨S, hS⟩ : ∃ S, B s = S := ⟨_, rfl⟩
  rw [hS] at HN
  rw [hS]
  have HS := Lib.hid hS
  clear hat hA hr cn hS
  go_enter Try.func24, Try.ntmps24
  go_upto_region 3 with (go_at_call 34; (with_reducible refine HN.out.mono ?_); rintro e w1 ⟨rfl, h1⟩; have R1 := Lib.hid h1; have B1 := Lib.hid (HB.out.rel h1); clear h1)
  go_upto_region 4 with (at_builtin; (refine wpList_copied2 rfl _ _ rfl A c l rfl rfl B1.out HA.out hlen ?_); intro v2 w2 own2 gr2; obtain ⟨A2, c2, e2, _⟩ := own_slice own2; subst e2; have O2 := Lib.hid own2; have GR := Lib.hid gr2; clear own2 gr2)
  have R2 := Lib.hid (show Rel w1 w2 from R1.out.self.grown GR.out (fun q hq => by cases hq))
  have B2 := Lib.hid (B1.out.rel R2.out)
  have R3 := Lib.hid (R1.out.trans R2.out)
  have S2 := Lib.hid R2.out.self
  have sz : w.heap.size ≤ w1.heap.size := R1.out.size
  have s3 : w1.heap.size ≤ w2.heap.size := R2.out.size
  clear GR
  go_wp2_with (fail)
  go_loopw [10] (fun i wr => ∃ j : Nat, j ≤ l.length ∧ i = .int .i64 (j : Int) ∧ Hid (∀ k (hk : k < l.length), k < j → l[k].1 ≠ s) ∧ w2 = wr) (fun i _ => l.length - (RowKit.intOf i).toNat)
  case atStart => exact ⟨0, by omega, rfl, Lib.hid (fun k hk h => absurd h (by omega)), by first | exact rfl | exact trivial⟩
  case round =>
    obtain ⟨j, hj, rfl, HJ, hw⟩ := hrel
    subst hw
    by_cases hlt : j < l.length
    · obtain ⟨g, off, x, rfl, hgl, hx, k0, k1⟩ := seen_at B2.out S2.out j hlt
      have HX := Lib.hid hx
      have hi : (j : Int) < (l.length : Int) := by omega
      clear hx hgl
      have hbl := bl_is x.1 s
      rw [HS.out] at hbl
      obtain ⟨X, hX⟩ : ∃ X, B x.1 = X := ⟨_, rfl⟩
      rw [hX] at k0 hbl
      have HXX := Lib.hid hX
      clear hX
      by_cases he : x.1 = s
      · rw [decide_eq_true he] at hbl
        have HE := Lib.hid he
        clear he
        obtain ⟨m, hm⟩ : ∃ m, x.2 = m := ⟨_, rfl⟩
        rw [hm] at k1
        have HM := Lib.hid hm
        clear hm
        by_cases hn : m < n
        · obtain ⟨q1, q2, q3⟩ := fr_set HO.out hlt (by rw [HX.out]; exact HE.out) HJ.out (by rw [HX.out, HM.out]; exact hn)
          have Q1 := Lib.hid q1
          have Q2 := Lib.hid q2
          have Q3 := Lib.hid q3
          have hd : decide (m < n) = true := decide_eq_true hn
          have HFl := Lib.hid (flat2_set hlt (s, n) (by rw [HX.out]; exact HE.out))
          have f1 := flat_at cl2_len l j hlt 1 (by omega)
          obtain ⟨g2, rfl, hg2⟩ : ∃ g2, A2 = some ⟨g2, 0, none⟩ ∧ w1.heap.size ≤ g2 := by
            rcases O2.out.2 with ⟨h0, _⟩ | ⟨g, cap, cur, hv, hb, _⟩
            · injection h0 with _ h0 _; omega
            · injection hv with hv _ _; exact ⟨g, hv, hb⟩
          have c1 := O2.out.cellAt (j * 2 + 1) (by omega)
          have z1 := O2.out.frozenAt (j * 2 + 1)
          rw [f1] at c1
          have d1 : w2.cell? ⟨g2, j * 2 + 1, none⟩ = some (.int .i64 l[j].2) := c1
          obtain ⟨u1, hu1⟩ : ∃ u, l[j].2 = u := ⟨_, rfl⟩
          rw [hu1] at d1
          have O4 := Lib.hid (O2.out.stored (j * 2 + 1) (.int .i64 n)).1
          clear q1 q2 q3 f1 c1 hu1
          go_wp2_with (fail)
          go_ret3
          refine ⟨_, c2, by (rw [Q1.out, Q2.out, Q3.out, List.length_set]; try rfl), ?_, R3.out.setCell (p := ⟨g2, j * 2 + 1, none⟩) (Nat.le_trans sz hg2) _⟩
          rw [Q1.out, List.length_set]
          have e := HFl.out
          have h4 := own_mono O4.out sz
          unfold SnOwn RowOwn
          rw [List.length_set, ← e]
          exact h4
        · obtain ⟨q1, q2, q3⟩ := fr_old HO.out hlt (by rw [HX.out]; exact HE.out) HJ.out (by rw [HX.out, HM.out]; exact hn)
          have Q1 := Lib.hid q1
          have Q2 := Lib.hid q2
          have Q3 := Lib.hid q3
          have hd : decide (m < n) = false := decide_eq_false hn
          clear q1 q2 q3
          go_wp2_with (fail)
          go_ret3
          refine ⟨A2, c2, by (rw [Q1.out, Q2.out, Q3.out]; try rfl), ?_, R3.out⟩
          rw [Q1.out]
          exact own_mono O2.out sz
      · rw [decide_eq_false he] at hbl
        have HE := Lib.hid he
        clear he
        go_wp2_with (fail)
        go_roundw
        case rel => exact ⟨j + 1, by omega, by go_num, Lib.hid (fun k hk h => by
          rcases Nat.lt_or_ge k j with h2 | h2
          · exact HJ.out k hk h2
          · obtain rfl : k = j := by omega
            rw [HX.out]; exact HE.out), by first | exact rfl | exact trivial⟩
        case measure => simp [RowKit.intOf]; omega
    · obtain rfl : j = l.length := by omega
      have HK := Lib.hid (fun k (hk : k < l.length) => HJ.out k hk hk)
      by_cases h8 : 8 ≤ l.length
      · obtain ⟨q1, q2, q3⟩ := fr_eight HO.out HK.out h8
        have Q1 := Lib.hid q1
        have Q2 := Lib.hid q2
        have Q3 := Lib.hid q3
        have h8' : (8 : Int) ≤ (l.length : Int) := by omega
        have h9 : decide ((8 : Int) ≤ (l.length : Int)) = true := decide_eq_true h8'
        clear q1 q2 q3
        go_wp2_with (fail)
        go_ret3
        exact ⟨none, 0, by rw [Q1.out, Q2.out, Q3.out]; rfl, by rw [Q1.out]; exact RowOwn.nil _ _ _, R3.out⟩
      · obtain ⟨q1, q2, q3⟩ := fr_new HO.out HK.out h8
        have Q1 := Lib.hid q1
        have Q2 := Lib.hid q2
        have Q3 := Lib.hid q3
        have h8' : (l.length : Int) < 8 := by omega
        have h9 : decide ((8 : Int) ≤ (l.length : Int)) = false := decide_eq_false (by omega)
        have HNw := Lib.hid (show ∀ (q : Nat) (u : Value), ([.string S, .int .i64 n] : List Value)[q]? = some u → (w2.alloc (.cells #[.string S, .int .i64 n] 72)).cell? ((⟨w2.heap.size, 0, none⟩ : Addr).add q) = some u from World.news_of_block (Bk.new w2 72 #[.string S, .int .i64 n]))
        have HRow := Lib.hid (World.ownsRow.alloc O2.out (.cells #[.string S, .int .i64 n] 72))
        have hsz : w1.heap.size ≤ (w2.alloc (.cells #[.string S, .int .i64 n] 72)).heap.size := by rw [World.size_alloc]; omega
        have HOne := Lib.hid (show ∀ u ∈ ([.string S, .int .i64 n] : List Value), u.oneCell' = true from by intro u hu; simp at hu; rcases hu with rfl | rfl <;> rfl)
        have HC := Lib.hid (show cl2 (s, n) = [.string S, .int .i64 n] from by unfold cl2; rw [← HS.out])
        have HLn := Lib.hid (show (frV l s n).length = l.length + 1 from by rw [q1, List.length_append]; rfl)
        clear q1 q2 q3
        go_wp2_with (at_builtin; (refine wpList_append_lies _ rfl _ _ 43 rfl w1.heap.size 72 i0 (.agg #[.string ⟨#[]⟩, .int .i64 0]) 2 24 Try.underlying43 hi0 hz0 hz1 hz2 rfl (by decide) (.slice A2 l.length c2) l.length (l.flatMap cl2) rfl HRow.out ⟨w2.heap.size, 0, none⟩ 1 1 [.string S, .int .i64 n] rfl rfl HNw.out HOne.out (by decide) (by unfold maxLen; omega) (by omega) hsz _ rfl ?_); intro g2 c3 w9 own9 gr9 at9 lt9; have HO2 := Lib.hid own9; have HG2 := Lib.hid gr9; clear own9 gr9)
        go_ret3
        refine ⟨_, c3, by (rw [HLn.out, Q2.out, Q3.out]; try rfl), ?_, (R3.out.alloc _).grown HG2.out (fun q hq => Nat.le_trans sz (HRow.out.lt q hq).1)⟩
        rw [HLn.out, Q1.out]
        exact own_mono (RowOwn.more (x := (s, n)) rfl (by rw [HC.out]; exact HO2.out)).row sz
theorem rfresh_any (l : List Sn) (s : List UInt8) (n : Int) (A : Option Addr) (c : Nat) (ls : s.length ≤ 9223372036854775807) (w : World) (hr : Rel w w) (hb : SnArg w A c l) :
    Calls Try.prog 24 #[.slice A l.length c, .string (B s), .int .i64 n] w (FrPost l s n w) := by
  cases cn : isName s with
  | false => exact rfresh_bad0 l s n cn A c ls w hr
  | true =>
    by_cases c1 : n < 1
    · exact rfresh_bad1 l s n cn c1 A c ls w hr
    · by_cases c2 : 1000000000000 < n
      · exact rfresh_bad2 l s n cn c1 c2 A c ls w hr
      · refine rfresh_ok l s n ?_ A c w hr hb
        unfold freshOk
        rw [cn, decide_eq_true (show 1 ≤ n ∧ n ≤ 1000000000000 by omega)]
        rfl
end Go.Proofs.Ytfplhpkolcgpiaa
