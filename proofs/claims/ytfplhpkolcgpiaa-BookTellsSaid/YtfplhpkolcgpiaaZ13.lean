/- The document's own answers of layer 13: what is put. -/
import Derived.Test.YtfplhpkolcgpiaaZL
import Derived.Test.YtfplhpkolcgpiaaZ00
import Derived.Test.YtfplhpkolcgpiaaZ09
import Derived.Test.YtfplhpkolcgpiaaZ12
namespace Go.Proofs.Ytfplhpkolcgpiaa
open Go.RowKit Go.Lib
set_option linter.unusedVariables false
set_option linter.unusedSimpArgs false
set_option maxRecDepth 100000 in
set_option maxHeartbeats 8000000 in
theorem rput_bad0 (b : List Sl) (s : List UInt8) (p k : Int) (cn : isName s = false) (A : Option Addr) (c : Nat) (ls : s.length ≤ 9223372036854775807) (w : World) (hr : Rel w w) :
    Calls Try.prog 15 #[.slice A b.length c, .string (B s), .int .i64 p, .int .i64 k] w (PutPost b s p k w) := by
  have hp : putOk s p k = false := by
    unfold putOk
    rw [cn]
    rfl
  obtain ⟨q1, q2⟩ := put_no (b := b) hp
  have Q1 := Lib.hid q1
  have Q2 := Lib.hid q2
  have HN := Lib.hid (rname_list s ls w w hr)
  rw [cn] at HN
  clear hr hp q1 q2 cn
  go_enter Try.func15, Try.ntmps15
  go_wp2_with (go_at_call 34; (with_reducible refine HN.out.mono ?_); rintro e w1 ⟨rfl, h1⟩)
  go_ret2
  exact ⟨none, 0, by rw [Q1.out, Q2.out]; rfl, by rw [Q1.out]; exact RowOwn.nil _ _ _, h1⟩
set_option maxRecDepth 100000 in
set_option maxHeartbeats 8000000 in
theorem rput_bad1 (b : List Sl) (s : List UInt8) (p k : Int) (cn : isName s = true) (c1 : p < 1) (A : Option Addr) (c : Nat) (ls : s.length ≤ 9223372036854775807) (w : World) (hr : Rel w w) :
    Calls Try.prog 15 #[.slice A b.length c, .string (B s), .int .i64 p, .int .i64 k] w (PutPost b s p k w) := by
  have hp : putOk s p k = false := by
    unfold putOk
    rw [cn]
    simp only [Bool.true_and, Bool.and_eq_false_iff, decide_eq_false_iff_not]; omega
  obtain ⟨q1, q2⟩ := put_no (b := b) hp
  have Q1 := Lib.hid q1
  have Q2 := Lib.hid q2
  have HN := Lib.hid (rname_list s ls w w hr)
  rw [cn] at HN
  have d1 : decide (p < 1) = true := decide_eq_true c1
  clear hr hp q1 q2 cn
  go_enter Try.func15, Try.ntmps15
  go_wp2_with (go_at_call 34; (with_reducible refine HN.out.mono ?_); rintro e w1 ⟨rfl, h1⟩)
  go_ret2
  exact ⟨none, 0, by rw [Q1.out, Q2.out]; rfl, by rw [Q1.out]; exact RowOwn.nil _ _ _, h1⟩
set_option maxRecDepth 100000 in
set_option maxHeartbeats 8000000 in
theorem rput_bad2 (b : List Sl) (s : List UInt8) (p k : Int) (cn : isName s = true) (c1 : ¬ p < 1) (c2 : 1000000000000 < p) (A : Option Addr) (c : Nat) (ls : s.length ≤ 9223372036854775807) (w : World) (hr : Rel w w) :
    Calls Try.prog 15 #[.slice A b.length c, .string (B s), .int .i64 p, .int .i64 k] w (PutPost b s p k w) := by
  have hp : putOk s p k = false := by
    unfold putOk
    rw [cn]
    simp only [Bool.true_and, Bool.and_eq_false_iff, decide_eq_false_iff_not]; omega
  obtain ⟨q1, q2⟩ := put_no (b := b) hp
  have Q1 := Lib.hid q1
  have Q2 := Lib.hid q2
  have HN := Lib.hid (rname_list s ls w w hr)
  rw [cn] at HN
  have d1 : decide (p < 1) = false := decide_eq_false c1
  have e1 : 1 ≤ p := by omega
  have d2 : decide (1000000000000 < p) = true := decide_eq_true c2
  clear hr hp q1 q2 cn
  go_enter Try.func15, Try.ntmps15
  go_wp2_with (go_at_call 34; (with_reducible refine HN.out.mono ?_); rintro e w1 ⟨rfl, h1⟩)
  go_ret2
  exact ⟨none, 0, by rw [Q1.out, Q2.out]; rfl, by rw [Q1.out]; exact RowOwn.nil _ _ _, h1⟩
set_option maxRecDepth 100000 in
set_option maxHeartbeats 8000000 in
theorem rput_bad3 (b : List Sl) (s : List UInt8) (p k : Int) (cn : isName s = true) (c1 : ¬ p < 1) (c2 : ¬ 1000000000000 < p) (c3 : k < 0) (A : Option Addr) (c : Nat) (ls : s.length ≤ 9223372036854775807) (w : World) (hr : Rel w w) :
    Calls Try.prog 15 #[.slice A b.length c, .string (B s), .int .i64 p, .int .i64 k] w (PutPost b s p k w) := by
  have hp : putOk s p k = false := by
    unfold putOk
    rw [cn]
    simp only [Bool.true_and, Bool.and_eq_false_iff, decide_eq_false_iff_not]; omega
  obtain ⟨q1, q2⟩ := put_no (b := b) hp
  have Q1 := Lib.hid q1
  have Q2 := Lib.hid q2
  have HN := Lib.hid (rname_list s ls w w hr)
  rw [cn] at HN
  have d1 : decide (p < 1) = false := decide_eq_false c1
  have e1 : 1 ≤ p := by omega
  have d2 : decide (1000000000000 < p) = false := decide_eq_false c2
  have e2 : p ≤ 1000000000000 := by omega
  have d3 : decide (k < 0) = true := decide_eq_true c3
  clear hr hp q1 q2 cn
  go_enter Try.func15, Try.ntmps15
  go_wp2_with (go_at_call 34; (with_reducible refine HN.out.mono ?_); rintro e w1 ⟨rfl, h1⟩)
  go_ret2
  exact ⟨none, 0, by rw [Q1.out, Q2.out]; rfl, by rw [Q1.out]; exact RowOwn.nil _ _ _, h1⟩
set_option maxRecDepth 100000 in
set_option maxHeartbeats 8000000 in
theorem rput_bad4 (b : List Sl) (s : List UInt8) (p k : Int) (cn : isName s = true) (c1 : ¬ p < 1) (c2 : ¬ 1000000000000 < p) (c3 : ¬ k < 0) (c4 : 1099511627776 < k) (A : Option Addr) (c : Nat) (ls : s.length ≤ 9223372036854775807) (w : World) (hr : Rel w w) :
    Calls Try.prog 15 #[.slice A b.length c, .string (B s), .int .i64 p, .int .i64 k] w (PutPost b s p k w) := by
  have hp : putOk s p k = false := by
    unfold putOk
    rw [cn]
    simp only [Bool.true_and, Bool.and_eq_false_iff, decide_eq_false_iff_not]; omega
  obtain ⟨q1, q2⟩ := put_no (b := b) hp
  have Q1 := Lib.hid q1
  have Q2 := Lib.hid q2
  have HN := Lib.hid (rname_list s ls w w hr)
  rw [cn] at HN
  have d1 : decide (p < 1) = false := decide_eq_false c1
  have e1 : 1 ≤ p := by omega
  have d2 : decide (1000000000000 < p) = false := decide_eq_false c2
  have e2 : p ≤ 1000000000000 := by omega
  have d3 : decide (k < 0) = false := decide_eq_false c3
  have e3 : 0 ≤ k := by omega
  have d4 : decide (1099511627776 < k) = true := decide_eq_true c4
  clear hr hp q1 q2 cn
  go_enter Try.func15, Try.ntmps15
  go_wp2_with (go_at_call 34; (with_reducible refine HN.out.mono ?_); rintro e w1 ⟨rfl, h1⟩)
  go_ret2
  exact ⟨none, 0, by rw [Q1.out, Q2.out]; rfl, by rw [Q1.out]; exact RowOwn.nil _ _ _, h1⟩
set_option maxRecDepth 100000 in
set_option maxHeartbeats 8000000 in
theorem rput_ok (b : List Sl) (s : List UInt8) (p k : Int) (ho : putOk s p k = true) (A : Option Addr) (c : Nat) (w : World) (hr : Rel w w) (hb : SlArg w A c b) :
    Calls Try.prog 15 #[.slice A b.length c, .string (B s), .int .i64 p, .int .i64 k] w (PutPost b s p k w) := by
  obtain ⟨hA, _, hlen, _, hat⟩ := hb
  have HO := Lib.hid ho
  unfold putOk at ho
  simp only [Bool.and_eq_true, decide_eq_true_eq] at ho
  obtain ⟨⟨cn, cp⟩, ck⟩ := ho
  have hl12 := bname_len cn
  have HN := Lib.hid (rname_list s (by omega) w w hr)
  rw [cn] at HN
  obtain ⟨p0, p1⟩ := cp
  obtain ⟨k0, k1⟩ := ck
  have HB := Lib.hid hat
  have HA := Lib.hid hA
  have HR := Lib.hid hr
  obtain ⟨i0, hi0, hz0, hz1, hz2⟩ := info_parts slot_info
  have HAt := Lib.hid (fun (w1 : World) (h : Rel w1 w1) (h2 : RowAt cl3 3 w1 A b) => rat_any b s A c w1 h h2 (by omega))
  obtain ⟨S, hS⟩ : ∃ S, B s = S := ⟨_, rfl⟩
  rw [hS] at HN HAt
  rw [hS]
  have HS := Lib.hid hS
  clear hat hA hr cn hS
  go_enter Try.func15, Try.ntmps15
  go_upto_region 3 with (go_at_call 34; (with_reducible refine HN.out.mono ?_); rintro e w1 ⟨rfl, h1⟩; have R1 := Lib.hid h1; have B1 := Lib.hid (HB.out.rel h1); clear h1)
  go_upto_region 4 with (at_builtin; (refine wpList_copied rfl _ _ rfl A c b rfl rfl B1.out HA.out hlen ?_); intro v2 w2 own2 gr2; obtain ⟨A2, c2, e2, _⟩ := own_slice own2; subst e2; have O2 := Lib.hid own2; have GR := Lib.hid gr2; clear own2 gr2)
  have R2 := Lib.hid (show Rel w1 w2 from R1.out.self.grown GR.out (fun q hq => by cases hq))
  have B2 := Lib.hid (B1.out.rel R2.out)
  clear GR
  go_upto_region 5 with (fail)
  have R3 := Lib.hid ((R1.out.trans R2.out).alloc (.cells #[.string S, .int .i64 p, .int .i64 k] 50))
  have B3 := Lib.hid (B2.out.rel (R2.out.self.alloc (.cells #[.string S, .int .i64 p, .int .i64 k] 50)))
  have O3 := Lib.hid (World.ownsRow.alloc O2.out (.cells #[.string S, .int .i64 p, .int .i64 k] 50))
  have HX := Lib.hid (Bk.new w2 50 #[.string S, .int .i64 p, .int .i64 k])
  have sz : w.heap.size ≤ w1.heap.size := R1.out.size
  have s3 : w1.heap.size ≤ (w2.alloc (.cells #[.string S, .int .i64 p, .int .i64 k] 50)).heap.size := by rw [World.size_alloc]; have := R2.out.size; omega
  obtain ⟨gx, hgx⟩ : ∃ g, w2.heap.size = g := ⟨_, rfl⟩
  obtain ⟨W3, hW3⟩ : ∃ W, w2.alloc (.cells #[.string S, .int .i64 p, .int .i64 k] 50) = W := ⟨_, rfl⟩
  rw [hW3] at R3 B3 O3 HX s3
  rw [hgx] at HX
  try rw [hW3]
  try rw [hgx]
  clear hW3 hgx
  obtain ⟨⟨x0, x1, x2⟩, _⟩ := three_of HX.out
  go_upto_region 6 with (go_at_call 35; (with_reducible refine (HAt.out _ R3.out.self B3.out).mono ?_); rintro e w' ⟨r, rfl, hrr, rfl⟩; have RR := Lib.hid hrr; clear hrr)
  rcases RR.out with ⟨rfl, hh⟩ | ⟨i, rfl, hi, he, hk⟩
  · by_cases h8 : 8 ≤ b.length
    · obtain ⟨q1, q2⟩ := put_eight HO.out hh h8
      have Q1 := Lib.hid q1
      have Q2 := Lib.hid q2
      have h8' : (8 : Int) ≤ (b.length : Int) := by omega
      have h9 : decide ((8 : Int) ≤ (b.length : Int)) = true := decide_eq_true h8'
      clear q1 q2 hh RR
      go_wp2_with (fail)
      go_ret2
      exact ⟨none, 0, by rw [Q1.out, Q2.out]; rfl, by rw [Q1.out]; exact RowOwn.nil _ _ _, R3.out⟩
    · obtain ⟨q1, q2⟩ := put_new HO.out hh h8
      have Q1 := Lib.hid q1
      have Q2 := Lib.hid q2
      have h8' : (b.length : Int) < 8 := by omega
      have h9 : decide ((8 : Int) ≤ (b.length : Int)) = false := decide_eq_false (by omega)
      have HNw := Lib.hid (show ∀ (q : Nat) (u : Value), ([.string S, .int .i64 p, .int .i64 k] : List Value)[q]? = some u → (W3.alloc (.cells #[.string S, .int .i64 p, .int .i64 k] 50)).cell? ((⟨W3.heap.size, 0, none⟩ : Addr).add q) = some u from World.news_of_block (Bk.new W3 50 #[.string S, .int .i64 p, .int .i64 k]))
      have HRow := Lib.hid (World.ownsRow.alloc O3.out (.cells #[.string S, .int .i64 p, .int .i64 k] 50))
      have hsz : w1.heap.size ≤ (W3.alloc (.cells #[.string S, .int .i64 p, .int .i64 k] 50)).heap.size := by rw [World.size_alloc]; omega
      have HOne := Lib.hid (show ∀ u ∈ ([.string S, .int .i64 p, .int .i64 k] : List Value), u.oneCell' = true from by intro u hu; simp at hu; rcases hu with rfl | rfl | rfl <;> rfl)
      have HC := Lib.hid (show cl3 (s, p, k) = [.string S, .int .i64 p, .int .i64 k] from by unfold cl3; rw [← HS.out])
      have HLn := Lib.hid (show (putV b s p k).length = b.length + 1 from by rw [q1, List.length_append]; rfl)
      clear q1 q2 hh RR
      go_wp2_with (at_builtin; (refine wpList_append_lies _ rfl _ _ 23 rfl w1.heap.size 50 i0 (.agg #[.string ⟨#[]⟩, .int .i64 0, .int .i64 0]) 3 32 Try.underlying23 hi0 hz0 hz1 hz2 rfl (by decide) (.slice A2 b.length c2) b.length (b.flatMap cl3) rfl HRow.out ⟨W3.heap.size, 0, none⟩ 1 1 [.string S, .int .i64 p, .int .i64 k] rfl rfl HNw.out HOne.out (by decide) (by unfold maxLen; omega) (by omega) hsz _ rfl ?_); intro g2 c3 w9 own9 gr9 at9 lt9; have HO2 := Lib.hid own9; have HG2 := Lib.hid gr9; clear own9 gr9)
      go_ret2
      refine ⟨_, c3, by (rw [HLn.out, Q2.out]; try rfl), ?_, (R3.out.alloc _).grown HG2.out (fun q hq => Nat.le_trans sz (HRow.out.lt q hq).1)⟩
      rw [HLn.out, Q1.out]
      exact own_mono (RowOwn.more (x := (s, p, k)) rfl (by rw [HC.out]; exact HO2.out)).row sz
  · obtain ⟨q1, q2⟩ := put_set HO.out hi he hk
    have Q1 := Lib.hid q1
    have Q2 := Lib.hid q2
    have HFl := Lib.hid (flat3_set hi (s, p, k))
    have f0 := flat_at cl3_len b i hi 0 (by omega)
    have f1 := flat_at cl3_len b i hi 1 (by omega)
    have f2 := flat_at cl3_len b i hi 2 (by omega)
    obtain ⟨g2, rfl, hg2⟩ : ∃ g2, A2 = some ⟨g2, 0, none⟩ ∧ w1.heap.size ≤ g2 := by
      rcases O3.out.2 with ⟨h0, _⟩ | ⟨g, cap, cur, hv, hb, _⟩
      · injection h0 with _ h0 _; omega
      · injection hv with hv _ _; exact ⟨g, hv, hb⟩
    have c0 := O3.out.cellAt (i * 3) (by omega)
    have c1 := O3.out.cellAt (i * 3 + 1) (by omega)
    have c2' := O3.out.cellAt (i * 3 + 2) (by omega)
    have z0 := O3.out.frozenAt (i * 3)
    have z1 := O3.out.frozenAt (i * 3 + 1)
    have z2 := O3.out.frozenAt (i * 3 + 2)
    rw [Nat.add_zero] at f0
    rw [f0] at c0
    rw [f1] at c1
    rw [f2] at c2'
    have d0 : W3.cell? ⟨g2, i * 3, none⟩ = some (.string (B b[i].1)) := c0
    have d1 : W3.cell? ⟨g2, i * 3 + 1, none⟩ = some (.int .i64 b[i].2.1) := c1
    have d2 : W3.cell? ⟨g2, i * 3 + 2, none⟩ = some (.int .i64 b[i].2.2) := c2'
    obtain ⟨u0, hu0⟩ : ∃ u, B b[i].1 = u := ⟨_, rfl⟩
    obtain ⟨u1, hu1⟩ : ∃ u, b[i].2.1 = u := ⟨_, rfl⟩
    obtain ⟨u2, hu2⟩ : ∃ u, b[i].2.2 = u := ⟨_, rfl⟩
    rw [hu0] at d0
    rw [hu1] at d1
    rw [hu2] at d2
    have hi' : (i : Int) < (b.length : Int) := by omega
    have O4 := Lib.hid ((((O3.out.stored (i * 3) (.string S)).1.stored (i * 3 + 1) (.int .i64 p)).1.stored (i * 3 + 2) (.int .i64 k)).1)
    clear q1 q2 f0 f1 f2 c0 c1 c2' hu0 hu1 hu2 he hk RR
    go_wp2_with (fail)
    go_ret2
    refine ⟨_, c2, by (rw [Q1.out, Q2.out, List.length_set]; try rfl), ?_, ((R3.out.setCell (p := ⟨g2, i * 3, none⟩) (Nat.le_trans sz hg2) _).setCell (p := ⟨g2, i * 3 + 1, none⟩) (Nat.le_trans sz hg2) _).setCell (p := ⟨g2, i * 3 + 2, none⟩) (Nat.le_trans sz hg2) _⟩
    rw [Q1.out, List.length_set]
    have e := HFl.out
    have h4 := own_mono O4.out sz
    unfold BkOwn RowOwn
    rw [List.length_set, ← e]
    have hs : (.string (B (s, p, k).1) : Value) = .string S := by show Value.string (B s) = _; rw [HS.out]
    rw [hs]
    exact h4
theorem rput_any (b : List Sl) (s : List UInt8) (p k : Int) (A : Option Addr) (c : Nat) (ls : s.length ≤ 9223372036854775807) (w : World) (hr : Rel w w) (hb : SlArg w A c b) :
    Calls Try.prog 15 #[.slice A b.length c, .string (B s), .int .i64 p, .int .i64 k] w (PutPost b s p k w) := by
  cases cn : isName s with
  | false => exact rput_bad0 b s p k cn A c ls w hr
  | true =>
    by_cases c1 : p < 1
    · exact rput_bad1 b s p k cn c1 A c ls w hr
    · by_cases c2 : 1000000000000 < p
      · exact rput_bad2 b s p k cn c1 c2 A c ls w hr
      · by_cases c3 : k < 0
        · exact rput_bad3 b s p k cn c1 c2 c3 A c ls w hr
        · by_cases c4 : 1099511627776 < k
          · exact rput_bad4 b s p k cn c1 c2 c3 c4 A c ls w hr
          · refine rput_ok b s p k ?_ A c w hr hb
            unfold putOk
            rw [cn, decide_eq_true (show 1 ≤ p ∧ p ≤ 1000000000000 by omega), decide_eq_true (show 0 ≤ k ∧ k ≤ 1099511627776 by omega)]
            rfl
end Go.Proofs.Ytfplhpkolcgpiaa
