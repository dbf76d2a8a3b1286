/- The landed Put, Drop, Fresh: what is asked of the landed book; The landed Drop and Fresh: what is asked of the landed book; Plain mathematics of layer 9: what strategies tell. No program in this text; Expressions in memory, and the law's source of raw numbers; Offers in memory: to be read, and of the call's own. -/
import Derived.Test.YtfplhpkolcgpiaaZL
import Derived.Test.YtfplhpkolcgpiaaZ00
import Derived.Test.YtfplhpkolcgpiaaZ01
import Derived.Test.YtfplhpkolcgpiaaZ02
import Derived.Test.YtfplhpkolcgpiaaZ03
import Derived.Test.YtfplhpkolcgpiaaZ04
import Derived.Test.YtfplhpkolcgpiaaZ06
namespace Go.Proofs.Ytfplhpkolcgpiaa
open Go.RowKit Go.Lib
set_option linter.unusedVariables false
set_option linter.unusedSimpArgs false
theorem first_in {b : List Sl} {s : List UInt8} (h : hasB b s = true) : ∃ i : Nat, ∃ hi : i < b.length, b[i].1 = s ∧ ∀ k (hk : k < b.length), k < i → b[k].1 ≠ s := by
  induction b with
  | nil => cases h
  | cons z r ih =>
    by_cases e : z.1 = s
    · exact ⟨0, by simp, e, fun k _ h => absurd h (by omega)⟩
    · unfold hasB at h ih
      rw [List.any_cons, decide_eq_false e, Bool.false_or] at h
      obtain ⟨i, hi, he, hk⟩ := ih h
      refine ⟨i + 1, by simpa using hi, he, fun k hk2 hlt => ?_⟩
      cases k with
      | zero => exact e
      | succ k => exact hk k (by simpa using hk2) (by omega)
theorem first_of {l : List Sn} {s : List UInt8} : (∀ k (hk : k < l.length), l[k].1 ≠ s) ∨ ∃ i : Nat, ∃ hi : i < l.length, l[i].1 = s ∧ ∀ k (hk : k < l.length), k < i → l[k].1 ≠ s := by
  induction l with
  | nil => exact .inl fun k hk => absurd hk (by simp)
  | cons z r ih =>
    by_cases e : z.1 = s
    · exact .inr ⟨0, by simp, e, fun k _ h => absurd h (by omega)⟩
    · rcases ih with ih | ⟨i, hi, he, hk⟩
      · refine .inl fun k hk => ?_
        cases k with
        | zero => exact e
        | succ k => exact ih k (by simpa using hk)
      · refine .inr ⟨i + 1, by simpa using hi, he, fun k hk2 hlt => ?_⟩
        cases k with
        | zero => exact e
        | succ k => exact hk k (by simpa using hk2) (by omega)
set_option maxRecDepth 100000 in
set_option maxHeartbeats 8000000 in
theorem pput_bad0 (b : List Sl) (s : List UInt8) (p k : Int) (cn : isName s = false) (A : Option Addr) (c : Nat) (ls : s.length ≤ 9223372036854775807) (w : World) (hr : Rel w w) :
    Calls Try.prog 14 #[.slice A b.length c, .string (B s), .int .i64 p, .int .i64 k] w (PutPost b s p k w) := by
  have hp : putOk s p k = false := by
    unfold putOk
    rw [cn]; simp
  obtain ⟨q1, q2⟩ := put_no (b := b) hp
  have Q1 := Lib.hid q1
  have Q2 := Lib.hid q2
  have HN := Lib.hid (lname_list s ls w w hr)
  rw [cn] at HN
  clear hr hp q1 q2 cn
  go_enter Try.func14, Try.ntmps14
  go_wp2_with (go_at_call 29; (with_reducible refine HN.out.mono ?_); rintro e w1 ⟨rfl, h1⟩; have R1 := Lib.hid h1; clear h1)
  go_ret2
  exact ⟨none, 0, by rw [Q1.out, Q2.out]; rfl, by rw [Q1.out]; exact RowOwn.nil _ _ _, R1.out⟩
set_option maxRecDepth 100000 in
set_option maxHeartbeats 8000000 in
theorem pput_bad1 (b : List Sl) (s : List UInt8) (p k : Int) (cn : isName s = true) (cp : decide (1 ≤ p ∧ p ≤ 1000000000000) = false) (A : Option Addr) (c : Nat) (ls : s.length ≤ 9223372036854775807) (w : World) (hr : Rel w w) :
    Calls Try.prog 14 #[.slice A b.length c, .string (B s), .int .i64 p, .int .i64 k] w (PutPost b s p k w) := by
  have hp : putOk s p k = false := by
    unfold putOk
    rw [cn, cp]; simp
  obtain ⟨q1, q2⟩ := put_no (b := b) hp
  have Q1 := Lib.hid q1
  have Q2 := Lib.hid q2
  have HN := Lib.hid (lname_list s ls w w hr)
  rw [cn] at HN
  have HP := Lib.hid cp
  clear hr hp q1 q2 cn cp
  go_enter Try.func14, Try.ntmps14
  go_wp2_with (first
    | (go_at_call 29; (with_reducible refine HN.out.mono ?_); rintro e w1 ⟨rfl, h1⟩; have R1 := Lib.hid h1; clear h1)
    | (go_at_call 30; (with_reducible refine (bwithin_as p 1 1000000000000 false (by omega) HP _).mono ?_); rintro e w2 ⟨rfl, rfl⟩))
  go_ret2
  exact ⟨none, 0, by rw [Q1.out, Q2.out]; rfl, by rw [Q1.out]; exact RowOwn.nil _ _ _, R1.out⟩
set_option maxRecDepth 100000 in
set_option maxHeartbeats 8000000 in
theorem pput_bad2 (b : List Sl) (s : List UInt8) (p k : Int) (cn : isName s = true) (cp : decide (1 ≤ p ∧ p ≤ 1000000000000) = true) (ct : decide (0 ≤ k ∧ k ≤ 1099511627776) = false) (A : Option Addr) (c : Nat) (ls : s.length ≤ 9223372036854775807) (w : World) (hr : Rel w w) :
    Calls Try.prog 14 #[.slice A b.length c, .string (B s), .int .i64 p, .int .i64 k] w (PutPost b s p k w) := by
  have hp : putOk s p k = false := by
    unfold putOk
    rw [cn, cp, ct]; simp
  obtain ⟨q1, q2⟩ := put_no (b := b) hp
  have Q1 := Lib.hid q1
  have Q2 := Lib.hid q2
  have HN := Lib.hid (lname_list s ls w w hr)
  rw [cn] at HN
  have HP := Lib.hid cp
  have HT := Lib.hid ct
  clear hr hp q1 q2 cn cp ct
  go_enter Try.func14, Try.ntmps14
  go_wp2_with (first
    | (go_at_call 29; (with_reducible refine HN.out.mono ?_); rintro e w1 ⟨rfl, h1⟩; have R1 := Lib.hid h1; clear h1)
    | (go_at_call 30; (with_reducible refine (bwithin_as p 1 1000000000000 true (by omega) HP _).mono ?_); rintro e w2 ⟨rfl, rfl⟩)
    | (go_at_call 30; (with_reducible refine (bwithin_as k 0 1099511627776 false (by omega) HT _).mono ?_); rintro e w2 ⟨rfl, rfl⟩))
  go_ret2
  exact ⟨none, 0, by rw [Q1.out, Q2.out]; rfl, by rw [Q1.out]; exact RowOwn.nil _ _ _, R1.out⟩
set_option maxRecDepth 100000 in
set_option maxHeartbeats 8000000 in
theorem pput_ok (b : List Sl) (s : List UInt8) (p k : Int) (V : List Sl) (E : Int) (cn : isName s = true) (cp : decide (1 ≤ p ∧ p ≤ 1000000000000) = true) (ct : decide (0 ≤ k ∧ k ≤ 1099511627776) = true) (S : ByteArray) (hS : B s = S) (A : Option Addr) (c : Nat) (w : World) (hr : Rel w w) (hb : SlArg w A c b)
    (HW : ∀ (w : World), Rel w w → SlArg w A c b → Calls Try.prog 32 #[.slice A b.length c, .agg #[.string S, .int .i64 p, .int .i64 k], .func (.func 33) #[] #[], .int .i64 8] w fun e w' => ∃ A2 c2, e = .returned (.tuple #[.slice A2 V.length c2, .int .i64 E]) ∧ BkOwn w' w.heap.size (.slice A2 V.length c2) V ∧ Rel w w') :
    Calls Try.prog 14 #[.slice A b.length c, .string S, .int .i64 p, .int .i64 k] w fun e w' => ∃ A2 c2, e = .returned (.tuple #[.slice A2 V.length c2, .int .i64 E]) ∧ BkOwn w' w.heap.size (.slice A2 V.length c2) V ∧ Rel w w' := by
  have hl12 := bname_len cn
  have HN := Lib.hid (lname_list s (by omega) w w hr)
  rw [cn, hS] at HN
  have HP := Lib.hid cp
  have HT := Lib.hid ct
  have HBa := Lib.hid hb
  have HWw := Lib.hid HW
  have hz : S.size ≤ 1000000000 := by rw [← hS, B_size]; omega
  clear hr hb cn cp ct HW hS
  go_enter Try.func14, Try.ntmps14
  go_upto_region 3 with (first
    | (go_at_call 29; (with_reducible refine HN.out.mono ?_); rintro e w1 ⟨rfl, h1⟩; have R1 := Lib.hid h1; have U1 := Lib.hid h1.self; clear h1)
    | (go_at_call 30; (with_reducible refine (bwithin_as p 1 1000000000000 true (by omega) HP _).mono ?_); rintro e w2 ⟨rfl, rfl⟩)
    | (go_at_call 30; (with_reducible refine (bwithin_as k 0 1099511627776 true (by omega) HT _).mono ?_); rintro e w2 ⟨rfl, rfl⟩))
  go_upto_region 4 with (go_at_call 31; (with_reducible refine (sclone13_any S hz w1 w1 U1.out).mono ?_); rintro e w2 ⟨rfl, h2⟩; have R2 := Lib.hid (R1.out.trans h2); clear h2)
  have HX := Lib.hid (Bk.new w2 50 #[.string S, .int .i64 p, .int .i64 k])
  have R3 := Lib.hid (R2.out.alloc (.cells #[.string S, .int .i64 p, .int .i64 k] 50))
  obtain ⟨gx, hgx⟩ : ∃ g, w2.heap.size = g := ⟨_, rfl⟩
  obtain ⟨W, hW⟩ : ∃ W, w2.alloc (.cells #[.string S, .int .i64 p, .int .i64 k] 50) = W := ⟨_, rfl⟩
  rw [hW] at HX R3
  rw [hgx] at HX
  try rw [hW]
  try rw [hgx]
  clear hW hgx
  obtain ⟨⟨x0, x1, x2⟩, _⟩ := three_of HX.out
  have HC := Lib.hid (HWw.out W R3.out.self (HBa.out.rel R3.out))
  have sz := R3.out.size
  go_wp2_with (go_at_call 32; (with_reducible refine HC.out.mono ?_); rintro e w5 ⟨A5, c5, rfl, o5, r5⟩; have O5 := Lib.hid o5; have R5 := Lib.hid r5; clear o5 r5)
  go_ret2
  exact ⟨A5, c5, rfl, row_own_mono O5.out sz, R3.out.trans R5.out⟩
theorem pput_any : KPutOk := fun b s p k A c ls w hr hb => by
  cases cn : isName s with
  | false => exact pput_bad0 b s p k cn A c ls w hr
  | true =>
    cases cp : decide (1 ≤ p ∧ p ≤ 1000000000000) with
    | false => exact pput_bad1 b s p k cn cp A c ls w hr
    | true =>
      cases ct : decide (0 ≤ k ∧ k ≤ 1099511627776) with
      | false => exact pput_bad2 b s p k cn cp ct A c ls w hr
      | true =>
        have ho : putOk s p k = true := by unfold putOk; rw [cn, cp, ct]; rfl
        unfold PutPost
        refine pput_ok b s p k (putV b s p k) (putE b s p k) cn cp ct (B s) rfl A c w hr hb fun w1 hr1 hb1 => ?_
        by_cases hh : hasB b s = true
        · obtain ⟨i, hi, he, hk⟩ := first_in hh
          obtain ⟨q1, q2⟩ := put_set ho hi he hk
          rw [q1, q2]
          refine (with_set_slot b s (B s) rfl p k A c w1 hr1 hb1 i hi he hk).mono fun e w' ⟨A2, c2, h1, h2, h3⟩ => ⟨A2, c2, ?_, ?_, h3⟩
          · rw [List.length_set]; exact h1
          · rw [List.length_set]; exact h2
        · have hh : hasB b s = false := by simpa using hh
          by_cases h8 : 8 ≤ b.length
          · obtain ⟨q1, q2⟩ := put_eight ho hh h8
            rw [q1, q2]
            exact (with_full_slot b s (B s) rfl p k A c w1 hr1 hb1 hh h8).mono fun e w' ⟨h1, h3⟩ => ⟨none, 0, h1, RowOwn.nil _ _ _, h3⟩
          · obtain ⟨q1, q2⟩ := put_new ho hh h8
            rw [q1, q2]
            exact with_new_slot b s (B s) rfl p k A c w1 hr1 hb1 hh (by omega)
end Go.Proofs.Ytfplhpkolcgpiaa

namespace Go.Proofs.Ytfplhpkolcgpiaa
open Go.RowKit Go.Lib
set_option linter.unusedVariables false
set_option linter.unusedSimpArgs false
set_option maxRecDepth 100000 in
set_option maxHeartbeats 4000000 in
theorem pdrop_yes (b : List Sl) (s : List UInt8) (S : ByteArray) (hS : B s = S) (A : Option Addr) (c : Nat) (w : World) (hr : Rel w w) (hb : SlArg w A c b) (i : Nat) (hi : i < b.length) (he : b[i].1 = s) (hk : ∀ k (hk : k < b.length), k < i → b[k].1 ≠ s) :
    Calls Try.prog 19 #[.slice A b.length c, .string S] w fun e w' => ∃ A2 c2, e = .returned (.slice A2 (dropB b s).length c2) ∧ BkOwn w' w.heap.size (.slice A2 (dropB b s).length c2) (dropB b s) ∧ Rel w w' := by
  obtain ⟨_, ⟨hnc, hcm⟩, hlen, _, hat⟩ := hb
  obtain ⟨g, off, rfl, _⟩ := hat i hi
  have HB := Lib.hid hat
  have HR := Lib.hid hr
  have HF := Lib.hid (first_slot b s S hS (some ⟨g, off, none⟩) c w hr hat (by omega))
  have HYes := Lib.hid (fun (r : Int) (h : AtIs b s r) => at_yes h hi he hk)
  have HD := Lib.hid (hasB_take hi he hk)
  obtain ⟨n, hn⟩ : ∃ n, b.length = n := ⟨_, rfl⟩
  have HN := Lib.hid hn
  rw [hn] at hi hnc hlen HF ⊢
  unfold maxLen at hcm
  clear hat hr he hk hn
  go_enter Try.func19, Try.ntmps19
  go_upto_region 2 with (go_at_call 40; (with_reducible refine HF.out.mono ?_); rintro e w1 ⟨r, rfl, ha, r1⟩; have HAt := Lib.hid ha.out; have R1 := Lib.hid r1; clear ha r1)
  have hr1 := HYes.out r HAt.out
  subst hr1
  clear HYes HAt
  go_upto_region 4 with (fail)
  have i1 : (i : Int) ≤ (c : Int) := by omega
  have i2 : ((i : Int) + 1) ≤ (n : Int) := by omega
  have i3 : (0 : Int) ≤ (i : Int) := by omega
  obtain ⟨q, hq⟩ : ∃ q : Nat, i + 1 = q := ⟨_, rfl⟩
  have i4 : IntKind.i64.wrap ((i : Int) + 1) = (q : Int) := by rw [IntKind.wrap_i64]; omega
  have i6 : (q : Int) ≤ (n : Int) := by omega
  have i7 : q ≤ n := by omega
  go_still_tail 7, (by kernel_rfl)
  change wpList _ _ _ _ _ w1.drew
  obtain ⟨AA, hAA⟩ : ∃ AA, (if c = q then some (⟨g, off, none⟩ : Addr) else some ⟨g, off + q * 3, none⟩) = AA := ⟨_, rfl⟩
  rw [hAA]
  have hB1 : RowAt cl3 3 w1 AA (b.drop q) := by
    rw [← hAA]
    by_cases e : c = q
    · rw [List.drop_of_length_le (by rw [HN.out]; omega)]
      exact RowAt.nil _ _
    · rw [if_neg e]
      exact (HB.out.rel R1.out).from q
  have hB0 : RowAt cl3 3 w1 (some ⟨g, off, none⟩) (b.take i) := (HB.out.rel R1.out).take i
  have hS1 : AA = none → c - q = 0 := by
    intro e
    rw [← hAA] at e
    split at e <;> cases e
  have lt0 : (b.take i).length = i := by rw [List.length_take, HN.out]; omega
  have lt1 : (b.drop q).length = n - q := by rw [List.length_drop, HN.out]
  have R2 := (R1.out.self.alloc (.cells #[.slice (some ⟨g, off, none⟩) i c, .slice AA (n - q) (c - q)] 23)).drew
  have hC := concat_slot (b.take i) (b.drop q) (some ⟨g, off, none⟩) AA c (c - q) w1.heap.size (w1.alloc (.cells #[.slice (some ⟨g, off, none⟩) i c, .slice AA (n - q) (c - q)] 23)).drew R2.self (hB0.rel R2) (fun e => by cases e) (hB1.rel R2) hS1 (by rw [lt0, lt1]; omega) (by rw [lt0, lt1]; exact (Bk.new w1 _ _).drew)
  rw [show b.take i ++ b.drop q = dropB b s by rw [HD.out, hq]] at hC
  have HC := Lib.hid hC
  have RR := Lib.hid (R1.out.trans R2)
  have sz := R1.out.size
  clear hC hB1 hB0 hS1 lt0 lt1 R2 hAA
  go_wp2_with (go_at_call 42; (with_reducible refine HC.out.mono ?_); rintro e w5 ⟨A5, c5, rfl, o5, r5⟩; have O5 := Lib.hid o5; have R5 := Lib.hid r5; clear o5 r5)
  go_ret
  exact ⟨A5, c5, rfl, row_own_mono O5.out (by show _ ≤ (w1.alloc _).heap.size; rw [World.size_alloc]; omega), RR.out.trans R5.out⟩
theorem pdrop_no (b : List Sl) (s : List UInt8) (S : ByteArray) (hS : B s = S) (A : Option Addr) (c : Nat) (w : World) (hr : Rel w w) (hb : SlArg w A c b) (hh : hasB b s = false) :
    Calls Try.prog 19 #[.slice A b.length c, .string S] w fun e w' => ∃ A2 c2, e = .returned (.slice A2 b.length c2) ∧ BkOwn w' w.heap.size (.slice A2 b.length c2) b ∧ Rel w w' := by
  have HF := Lib.hid (first_slot b s S hS A c w hr hb.2.2.2.2 (by have := hb.2.2.1; omega))
  have HBa := Lib.hid hb
  have HH := Lib.hid hh
  clear hr hb hh
  go_enter Try.func19, Try.ntmps19
  go_upto_region 2 with (go_at_call 40; (with_reducible refine HF.out.mono ?_); rintro e w1 ⟨r, rfl, ha, r1⟩; have HAt := Lib.hid ha.out; have R1 := Lib.hid r1; clear ha r1)
  have hr1 := at_no HAt.out HH.out
  subst hr1
  have HC := Lib.hid (clone_slot b A c w1 R1.out.self (HBa.out.rel R1.out))
  have sz := R1.out.size
  go_wp2_with (go_at_call 41; (with_reducible refine HC.out.mono ?_); rintro e w5 ⟨A5, c5, rfl, o5, r5⟩; have O5 := Lib.hid o5; have R5 := Lib.hid r5; clear o5 r5)
  go_ret
  exact ⟨A5, c5, rfl, row_own_mono O5.out sz, R1.out.trans R5.out⟩
theorem pdrop_any : KDropOk := fun b A c s w ls hr hb => by
  by_cases hh : hasB b s = true
  · obtain ⟨i, hi, he, hk⟩ := first_in hh
    exact pdrop_yes b s (B s) rfl A c w hr hb i hi he hk
  · have hh : hasB b s = false := by simpa using hh
    rw [drop_none hh]
    exact pdrop_no b s (B s) rfl A c w hr hb hh
set_option maxRecDepth 100000 in
set_option maxHeartbeats 8000000 in
theorem pfresh_bad0 (l : List Sn) (s : List UInt8) (n : Int) (cn : isName s = false) (A : Option Addr) (c : Nat) (ls : s.length ≤ 9223372036854775807) (w : World) (hr : Rel w w) :
    Calls Try.prog 23 #[.slice A l.length c, .string (B s), .int .i64 n] w (FrPost l s n w) := by
  have hp : freshOk s n = false := by
    unfold freshOk
    rw [cn]; rfl
  obtain ⟨q1, q2, q3⟩ := fr_no (l := l) hp
  have Q1 := Lib.hid q1
  have Q2 := Lib.hid q2
  have Q3 := Lib.hid q3
  have HN := Lib.hid (lname_list s ls w w hr)
  rw [cn] at HN
  clear hr hp q1 q2 q3 cn
  go_enter Try.func23, Try.ntmps23
  go_wp2_with (go_at_call 29; (with_reducible refine HN.out.mono ?_); rintro e w1 ⟨rfl, h1⟩; have R1 := Lib.hid h1; clear h1)
  go_ret3
  exact ⟨none, 0, by rw [Q1.out, Q2.out, Q3.out]; rfl, by rw [Q1.out]; exact RowOwn.nil _ _ _, R1.out⟩
set_option maxRecDepth 100000 in
set_option maxHeartbeats 8000000 in
theorem pfresh_bad1 (l : List Sn) (s : List UInt8) (n : Int) (cn : isName s = true) (cp : decide (1 ≤ n ∧ n ≤ 1000000000000) = false) (A : Option Addr) (c : Nat) (ls : s.length ≤ 9223372036854775807) (w : World) (hr : Rel w w) :
    Calls Try.prog 23 #[.slice A l.length c, .string (B s), .int .i64 n] w (FrPost l s n w) := by
  have hp : freshOk s n = false := by
    unfold freshOk
    rw [cn, cp]; rfl
  obtain ⟨q1, q2, q3⟩ := fr_no (l := l) hp
  have Q1 := Lib.hid q1
  have Q2 := Lib.hid q2
  have Q3 := Lib.hid q3
  have HN := Lib.hid (lname_list s ls w w hr)
  rw [cn] at HN
  have HP := Lib.hid cp
  clear hr hp q1 q2 q3 cn cp
  go_enter Try.func23, Try.ntmps23
  go_wp2_with (first
    | (go_at_call 29; (with_reducible refine HN.out.mono ?_); rintro e w1 ⟨rfl, h1⟩; have R1 := Lib.hid h1; clear h1)
    | (go_at_call 30; (with_reducible refine (bwithin_as n 1 1000000000000 false (by omega) HP _).mono ?_); rintro e w2 ⟨rfl, rfl⟩))
  go_ret3
  exact ⟨none, 0, by rw [Q1.out, Q2.out, Q3.out]; rfl, by rw [Q1.out]; exact RowOwn.nil _ _ _, R1.out⟩
set_option maxRecDepth 100000 in
set_option maxHeartbeats 8000000 in
theorem pfresh_old (l : List Sn) (s : List UInt8) (n : Int) (cn : isName s = true) (cp : decide (1 ≤ n ∧ n ≤ 1000000000000) = true) (S : ByteArray) (hS : B s = S) (A : Option Addr) (c : Nat) (w : World) (hr : Rel w w) (hb : SnArg w A c l) (i : Nat) (hi : i < l.length) (he : l[i].1 = s) (hk : ∀ k (hk : k < l.length), k < i → l[k].1 ≠ s) (hm : ¬ l[i].2 < n) :
    Calls Try.prog 23 #[.slice A l.length c, .string S, .int .i64 n] w fun e w' => ∃ A2 c2, e = .returned (.tuple #[.slice A2 l.length c2, .bool false, .int .i64 0]) ∧ SnOwn w' w.heap.size (.slice A2 l.length c2) l ∧ Rel w w' := by
  have hl12 := bname_len cn
  have HN := Lib.hid (lname_list s (by omega) w w hr)
  rw [cn, hS] at HN
  have HP := Lib.hid cp
  have HBa := Lib.hid hb
  have HF := Lib.hid (fun (w : World) (hr : Rel w w) (hb : RowAt cl2 2 w A l) => first_seen l s S hS A c w hr hb (by have := HBa.out.2.2.1; omega))
  have HYes := Lib.hid (fun (r : Int) (h : SnIs l s r) => sn_yes h hi he hk)
  obtain ⟨x, hx⟩ : ∃ x, l[i] = x := ⟨_, rfl⟩
  rw [hx] at hm
  have HM := Lib.hid hm
  have HX := Lib.hid hx
  have HI := Lib.hid hi
  have hi' : (i : Int) < (l.length : Int) := by omega
  clear hr hb cn cp hS he hk hm hx
  go_enter Try.func23, Try.ntmps23
  go_upto_region 3 with (first
    | (go_at_call 29; (with_reducible refine HN.out.mono ?_); rintro e w1 ⟨rfl, h1⟩; have R1 := Lib.hid h1; have U1 := Lib.hid h1.self; clear h1)
    | (go_at_call 30; (with_reducible refine (bwithin_as n 1 1000000000000 true (by omega) HP _).mono ?_); rintro e w2 ⟨rfl, rfl⟩))
  have B1 := Lib.hid (HBa.out.rel R1.out).2.2.2.2
  go_upto_region 4 with (go_at_call 45; (with_reducible refine (HF.out _ U1.out B1.out).mono ?_); rintro e w2 ⟨r, rfl, ha, r1⟩; have HAt := Lib.hid ha.out; have R2 := Lib.hid (R1.out.trans r1); clear ha r1)
  have hr1 := HYes.out r HAt.out
  subst hr1
  obtain ⟨g, off, y, rfl, _, hy, k0, k1⟩ := seen_at HBa.out.2.2.2.2 R2.out i HI.out
  have hyx : y = x := by rw [← hy, HX.out]
  subst hyx
  obtain ⟨m, hm⟩ : ∃ m, y.2 = m := ⟨_, rfl⟩
  rw [hm] at k1
  have h1 : decide (n ≤ m) = true := decide_eq_true (by have := HM.out; omega)
  have hge : decide ((0 : Int) ≤ (i : Int)) = true := decide_eq_true (by omega)
  have HC := Lib.hid (clone_seen l (some ⟨g, off, none⟩) c w2 R2.out.self (HBa.out.rel R2.out))
  have sz := R2.out.size
  clear hy HYes HAt
  go_wp2_with (go_at_call 47; (with_reducible refine HC.out.mono ?_); rintro e w5 ⟨A5, c5, rfl, o5, r5⟩; have O5 := Lib.hid o5; have R5 := Lib.hid r5; clear o5 r5)
  go_ret3
  exact ⟨A5, c5, rfl, row_own_mono O5.out sz, R2.out.trans R5.out⟩
set_option maxRecDepth 100000 in
set_option maxHeartbeats 8000000 in
theorem pfresh_set (l V : List Sn) (s : List UInt8) (n E : Int) (q : Bool) (hE : (E == 0) = q) (cn : isName s = true) (cp : decide (1 ≤ n ∧ n ≤ 1000000000000) = true) (S : ByteArray) (hS : B s = S) (A : Option Addr) (c : Nat) (w : World) (hr : Rel w w) (hb : SnArg w A c l) (i : Nat) (hi : i < l.length) (he : l[i].1 = s) (hk : ∀ k (hk : k < l.length), k < i → l[k].1 ≠ s) (hm : l[i].2 < n)
    (HW : ∀ (w : World), Rel w w → SnArg w A c l → Calls Try.prog 48 #[.slice A l.length c, .agg #[.string S, .int .i64 n], .func (.func 46) #[] #[], .int .i64 8] w fun e w' => ∃ A2 c2, e = .returned (.tuple #[.slice A2 V.length c2, .int .i64 E]) ∧ SnOwn w' w.heap.size (.slice A2 V.length c2) V ∧ Rel w w') :
    Calls Try.prog 23 #[.slice A l.length c, .string S, .int .i64 n] w fun e w' => ∃ A2 c2, e = .returned (.tuple #[.slice A2 V.length c2, .bool q, .int .i64 E]) ∧ SnOwn w' w.heap.size (.slice A2 V.length c2) V ∧ Rel w w' := by
  have hl12 := bname_len cn
  have HN := Lib.hid (lname_list s (by omega) w w hr)
  rw [cn, hS] at HN
  have HP := Lib.hid cp
  have HBa := Lib.hid hb
  have HF := Lib.hid (fun (w : World) (hr : Rel w w) (hb : RowAt cl2 2 w A l) => first_seen l s S hS A c w hr hb (by have := HBa.out.2.2.1; omega))
  have HWw := Lib.hid HW
  have hz : S.size ≤ 1000000000 := by rw [← hS, B_size]; omega
  have HYes := Lib.hid (fun (r : Int) (h : SnIs l s r) => sn_yes h hi he hk)
  obtain ⟨x, hx⟩ : ∃ x, l[i] = x := ⟨_, rfl⟩
  rw [hx] at hm
  have HM := Lib.hid hm
  have HX := Lib.hid hx
  have HI := Lib.hid hi
  have hi' : (i : Int) < (l.length : Int) := by omega
  clear hr hb cn cp hS he hk hm hx HW
  go_enter Try.func23, Try.ntmps23
  go_upto_region 3 with (first
    | (go_at_call 29; (with_reducible refine HN.out.mono ?_); rintro e w1 ⟨rfl, h1⟩; have R1 := Lib.hid h1; have U1 := Lib.hid h1.self; clear h1)
    | (go_at_call 30; (with_reducible refine (bwithin_as n 1 1000000000000 true (by omega) HP _).mono ?_); rintro e w2 ⟨rfl, rfl⟩))
  have B1 := Lib.hid (HBa.out.rel R1.out).2.2.2.2
  go_upto_region 4 with (go_at_call 45; (with_reducible refine (HF.out _ U1.out B1.out).mono ?_); rintro e w2 ⟨r, rfl, ha, r1⟩; have HAt := Lib.hid ha.out; have R2 := Lib.hid (R1.out.trans r1); clear ha r1)
  have hr1 := HYes.out r HAt.out
  subst hr1
  obtain ⟨g, off, y, rfl, _, hy, k0, k1⟩ := seen_at HBa.out.2.2.2.2 R2.out i HI.out
  have hyx : y = x := by rw [← hy, HX.out]
  subst hyx
  obtain ⟨m, hm⟩ : ∃ m, y.2 = m := ⟨_, rfl⟩
  rw [hm] at k1
  have h1 : decide (n ≤ m) = false := decide_eq_false (by have := HM.out; omega)
  have hge : decide ((0 : Int) ≤ (i : Int)) = true := decide_eq_true (by omega)
  clear hy HYes HAt
  go_upto_region 7 with (go_at_call 31; (with_reducible refine (sclone13_any S hz w2 w2 R2.out.self).mono ?_); rintro e w3 ⟨rfl, h2⟩; have R3 := Lib.hid (R2.out.trans h2); clear h2)
  have HX3 := Lib.hid (Bk.new w3 72 #[.string S, .int .i64 n])
  have R4 := Lib.hid (R3.out.alloc (.cells #[.string S, .int .i64 n] 72))
  obtain ⟨gx, hgx⟩ : ∃ g, w3.heap.size = g := ⟨_, rfl⟩
  obtain ⟨W, hW⟩ : ∃ W, w3.alloc (.cells #[.string S, .int .i64 n] 72) = W := ⟨_, rfl⟩
  rw [hW] at HX3 R4
  rw [hgx] at HX3
  try rw [hW]
  try rw [hgx]
  clear hW hgx
  obtain ⟨⟨x0, x1⟩, _⟩ := HX3.out.two
  have HC := Lib.hid (HWw.out W R4.out.self (HBa.out.rel R4.out))
  have sz := R4.out.size
  go_wp2_with (go_at_call 48; (with_reducible refine HC.out.mono ?_); rintro e w5 ⟨A5, c5, rfl, o5, r5⟩; have O5 := Lib.hid o5; have R5 := Lib.hid r5; clear o5 r5)
  go_ret3
  exact ⟨A5, c5, rfl, row_own_mono O5.out sz, R4.out.trans R5.out⟩
set_option maxRecDepth 100000 in
set_option maxHeartbeats 8000000 in
theorem pfresh_new (l V : List Sn) (s : List UInt8) (n E : Int) (q : Bool) (hE : (E == 0) = q) (cn : isName s = true) (cp : decide (1 ≤ n ∧ n ≤ 1000000000000) = true) (S : ByteArray) (hS : B s = S) (A : Option Addr) (c : Nat) (w : World) (hr : Rel w w) (hb : SnArg w A c l) (hn : ∀ k (hk : k < l.length), l[k].1 ≠ s)
    (HW : ∀ (w : World), Rel w w → SnArg w A c l → Calls Try.prog 48 #[.slice A l.length c, .agg #[.string S, .int .i64 n], .func (.func 46) #[] #[], .int .i64 8] w fun e w' => ∃ A2 c2, e = .returned (.tuple #[.slice A2 V.length c2, .int .i64 E]) ∧ SnOwn w' w.heap.size (.slice A2 V.length c2) V ∧ Rel w w') :
    Calls Try.prog 23 #[.slice A l.length c, .string S, .int .i64 n] w fun e w' => ∃ A2 c2, e = .returned (.tuple #[.slice A2 V.length c2, .bool q, .int .i64 E]) ∧ SnOwn w' w.heap.size (.slice A2 V.length c2) V ∧ Rel w w' := by
  have hl12 := bname_len cn
  have HN := Lib.hid (lname_list s (by omega) w w hr)
  rw [cn, hS] at HN
  have HP := Lib.hid cp
  have HBa := Lib.hid hb
  have HF := Lib.hid (fun (w : World) (hr : Rel w w) (hb : RowAt cl2 2 w A l) => first_seen l s S hS A c w hr hb (by have := HBa.out.2.2.1; omega))
  have HWw := Lib.hid HW
  have hz : S.size ≤ 1000000000 := by rw [← hS, B_size]; omega
  have HNo := Lib.hid hn
  clear hr hb cn cp hS HW hn
  go_enter Try.func23, Try.ntmps23
  go_upto_region 3 with (first
    | (go_at_call 29; (with_reducible refine HN.out.mono ?_); rintro e w1 ⟨rfl, h1⟩; have R1 := Lib.hid h1; have U1 := Lib.hid h1.self; clear h1)
    | (go_at_call 30; (with_reducible refine (bwithin_as n 1 1000000000000 true (by omega) HP _).mono ?_); rintro e w2 ⟨rfl, rfl⟩))
  have B1 := Lib.hid (HBa.out.rel R1.out).2.2.2.2
  go_upto_region 4 with (go_at_call 45; (with_reducible refine (HF.out _ U1.out B1.out).mono ?_); rintro e w2 ⟨r, rfl, ha, r1⟩; have HAt := Lib.hid ha.out; have R2 := Lib.hid (R1.out.trans r1); clear ha r1)
  have hr1 := sn_no HAt.out HNo.out
  subst hr1
  clear HAt
  go_upto_region 7 with (go_at_call 31; (with_reducible refine (sclone13_any S hz w2 w2 R2.out.self).mono ?_); rintro e w3 ⟨rfl, h2⟩; have R3 := Lib.hid (R2.out.trans h2); clear h2)
  have HX3 := Lib.hid (Bk.new w3 72 #[.string S, .int .i64 n])
  have R4 := Lib.hid (R3.out.alloc (.cells #[.string S, .int .i64 n] 72))
  obtain ⟨gx, hgx⟩ : ∃ g, w3.heap.size = g := ⟨_, rfl⟩
  obtain ⟨W, hW⟩ : ∃ W, w3.alloc (.cells #[.string S, .int .i64 n] 72) = W := ⟨_, rfl⟩
  rw [hW] at HX3 R4
  rw [hgx] at HX3
  try rw [hW]
  try rw [hgx]
  clear hW hgx
  obtain ⟨⟨x0, x1⟩, _⟩ := HX3.out.two
  have HC := Lib.hid (HWw.out W R4.out.self (HBa.out.rel R4.out))
  have sz := R4.out.size
  go_wp2_with (go_at_call 48; (with_reducible refine HC.out.mono ?_); rintro e w5 ⟨A5, c5, rfl, o5, r5⟩; have O5 := Lib.hid o5; have R5 := Lib.hid r5; clear o5 r5)
  go_ret3
  exact ⟨A5, c5, rfl, row_own_mono O5.out sz, R4.out.trans R5.out⟩
theorem pfresh_any : KFreshOk := fun l s n A c ls w hr hb => by
  cases cn : isName s with
  | false => exact pfresh_bad0 l s n cn A c ls w hr
  | true =>
    cases cp : decide (1 ≤ n ∧ n ≤ 1000000000000) with
    | false => exact pfresh_bad1 l s n cn cp A c ls w hr
    | true =>
      have ho : freshOk s n = true := by unfold freshOk; rw [cn, cp]; rfl
      unfold FrPost
      rcases first_of (l := l) (s := s) with hk | ⟨i, hi, he, hk⟩
      · by_cases h8 : 8 ≤ l.length
        · obtain ⟨q1, q2, q3⟩ := fr_eight ho hk h8
          rw [q1, q2, q3]
          exact pfresh_new l [] s n 50 false rfl cn cp (B s) rfl A c w hr hb hk fun w1 hr1 hb1 => (with_full_seen l s (B s) rfl n A c w1 hr1 hb1 hk h8).mono fun e w' ⟨h1, h3⟩ => ⟨none, 0, h1, RowOwn.nil _ _ _, h3⟩
        · obtain ⟨q1, q2, q3⟩ := fr_new ho hk h8
          rw [q1, q2, q3]
          exact pfresh_new l (l ++ [(s, n)]) s n 0 true rfl cn cp (B s) rfl A c w hr hb hk fun w1 hr1 hb1 => with_new_seen l s (B s) rfl n A c w1 hr1 hb1 hk (by omega)
      · by_cases hm : l[i].2 < n
        · obtain ⟨q1, q2, q3⟩ := fr_set ho hi he hk hm
          rw [q1, q2, q3]
          refine pfresh_set l (l.set i (s, n)) s n 0 true rfl cn cp (B s) rfl A c w hr hb i hi he hk hm fun w1 hr1 hb1 => ?_
          refine (with_set_seen l s (B s) rfl n A c w1 hr1 hb1 i hi he hk).mono fun e w' ⟨A2, c2, h1, h2, h3⟩ => ⟨A2, c2, ?_, ?_, h3⟩
          · rw [List.length_set]; exact h1
          · rw [List.length_set]; exact h2
        · obtain ⟨q1, q2, q3⟩ := fr_old ho hi he hk hm
          rw [q1, q2, q3]
          exact pfresh_old l s n cn cp (B s) rfl A c w hr hb i hi he hk hm
theorem bookProOk : BookOk := ⟨pput_any, pdrop_any, pexpire_any, poffers_any, pfresh_any⟩
end Go.Proofs.Ytfplhpkolcgpiaa

namespace Go.Proofs.Ytfplhpkolcgpiaa
open Go.Lib
set_option linter.unusedVariables false
set_option linter.unusedSimpArgs false
/-- An offer: who, and at what. -/
abbrev Of := List UInt8 × Int
end Go.Proofs.Ytfplhpkolcgpiaa

namespace Go.Proofs.Ytfplhpkolcgpiaa
open Go.RowKit Go.Lib
set_option linter.unusedVariables false
set_option linter.unusedSimpArgs false
/-- An expression as its row holds it: kind, number, name, and the slice of its arguments. -/
abbrev El := Int × Int × List UInt8 × Option Addr × Nat × Nat
/-- The cells from A on are these; their block is one of S. -/
def RowE (S : Nat → Prop) (w : World) (A : Option Addr) (es : List El) : Prop :=
  ∀ i (h : i < es.length), ∃ (g off : Nat), A = some ⟨g, off, none⟩ ∧ g < w.heap.size ∧ S g ∧ w.cell? ⟨g, off + i * 4, none⟩ = some (.int .i64 es[i].1) ∧ w.cell? ⟨g, off + i * 4 + 1, none⟩ = some (.int .i64 es[i].2.1) ∧
    w.cell? ⟨g, off + i * 4 + 2, none⟩ = some (.string (B es[i].2.2.1)) ∧ w.cell? ⟨g, off + i * 4 + 3, none⟩ = some (.slice es[i].2.2.2.1 es[i].2.2.2.2.1 es[i].2.2.2.2.2)
theorem RowE.mono {S S' : Nat → Prop} {w w' : World} {A : Option Addr} {es : List El} (h : RowE S w A es) (hs : w.heap.size ≤ w'.heap.size) (hm : ∀ g, S g → g < w.heap.size → S' g ∧ w'.heap[g]? = w.heap[g]?) : RowE S' w' A es := by
  intro i hi
  obtain ⟨g, off, e, hl, hS, h0, h1, h2, h3⟩ := h i hi
  obtain ⟨hS', hb⟩ := hm g hS hl
  have hk : ∀ j, w'.cell? ⟨g, j, none⟩ = w.cell? ⟨g, j, none⟩ := fun j => World.cell?_of_block (a := ⟨g, j, none⟩) hb
  exact ⟨g, off, e, by omega, hS', by rw [hk]; exact h0, by rw [hk]; exact h1, by rw [hk]; exact h2, by rw [hk]; exact h3⟩
def i64 (n : Int) : Prop := -9223372036854775808 ≤ n ∧ n ≤ 9223372036854775807
/-- In this world an element is this expression. -/
inductive ExAt (S : Nat → Prop) (w : World) : El → Ex → Prop where
  | mk (k n : Int) (nm : List UInt8) (A : Option Addr) (c : Nat) (l : List Ex) (es : List El) (hk : i64 k) (hn : i64 n) (hm : nm.length ≤ 100) (hl : es.length = l.length) (hrow : RowE S w A es)
      (hsub : ∀ i (h : i < es.length) (h' : i < l.length), ExAt S w es[i] l[i]) : ExAt S w (k, n, nm, A, l.length, c) (.mk k n nm l)
theorem ExAt.mono {S S' : Nat → Prop} {w w' : World} (hs : w.heap.size ≤ w'.heap.size) (hm : ∀ g, S g → g < w.heap.size → S' g ∧ w'.heap[g]? = w.heap[g]?) {e : El} {x : Ex} (h : ExAt S w e x) : ExAt S' w' e x := by
  induction h with
  | mk k n nm A c l es hk hn hm' hl hrow hsub ih => exact .mk k n nm A c l es hk hn hm' hl (hrow.mono hs hm) ih
/-- What an element is, opened. -/
theorem ExAt.open {S : Nat → Prop} {w : World} {k n : Int} {nm : List UInt8} {l : List Ex} {e : El} (h : ExAt S w e (.mk k n nm l)) : ∃ A c es, e = (k, n, nm, A, l.length, c) ∧ i64 k ∧ i64 n ∧ nm.length ≤ 100 ∧ es.length = l.length ∧ RowE S w A es ∧ ∀ i (h : i < es.length) (h' : i < l.length), ExAt S w es[i] l[i] := by
  cases h with
  | mk k n nm A c l es hk hn hm hl hrow hsub => exact ⟨A, c, es, rfl, hk, hn, hm, hl, hrow, hsub⟩
theorem RowE.nil (S : Nat → Prop) (w : World) (A : Option Addr) : RowE S w A [] := fun i h => absurd h (by simp)
end Go.Proofs.Ytfplhpkolcgpiaa

namespace Go.Proofs.Ytfplhpkolcgpiaa
open Go.RowKit Go.Lib
set_option linter.unusedVariables false
set_option linter.unusedSimpArgs false
def cells2 (o : Of) : List Value := [.string (B o.1), .int .i64 o.2]
def cellsO (os : List Of) : List Value := os.flatMap cells2
/-- The cells from A on are these offers. -/
def OffsAt (w : World) (A : Option Addr) (os : List Of) : Prop :=
  ∀ i (h : i < os.length), ∃ (g off : Nat), A = some ⟨g, off, none⟩ ∧ g < w.heap.size ∧ w.cell? ⟨g, off + i * 2, none⟩ = some (.string (B os[i].1)) ∧ w.cell? ⟨g, off + i * 2 + 1, none⟩ = some (.int .i64 os[i].2)
theorem OffsAt.nil (w : World) (A : Option Addr) : OffsAt w A [] := fun i h => absurd h (by simp)
theorem OffsAt.take {w : World} {A : Option Addr} {os : List Of} (h : OffsAt w A os) (k : Nat) : OffsAt w A (os.take k) := by
  intro i hi
  rw [List.length_take] at hi
  obtain ⟨g, off, e, hl, h0, h1⟩ := h i (by omega)
  refine ⟨g, off, e, hl, ?_, ?_⟩
  · rw [List.getElem_take]; exact h0
  · rw [List.getElem_take]; exact h1
/-- A slice of offers of the call's own. -/
def OffOwn (w : World) (base : Nat) (v : Value) (os : List Of) : Prop := w.ownsRow base 41 2 v os.length (cellsO os)
theorem OffOwn.nil (w : World) (base : Nat) : OffOwn w base (.slice none 0 0) [] := World.ownsRow_nil _ _ _ _
end Go.Proofs.Ytfplhpkolcgpiaa
