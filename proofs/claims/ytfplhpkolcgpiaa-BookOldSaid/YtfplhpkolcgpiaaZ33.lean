/- Plain mathematics of layer 13: books and lists of sources. No program in this text; The law of layer 13 on time: with more time less is left; Raw triples, raw pairs, books and lists of sources as arguments, opened; the seven walks for the shell. -/
import Derived.Test.YtfplhpkolcgpiaaZL
import Derived.Test.YtfplhpkolcgpiaaZ00
import Derived.Test.YtfplhpkolcgpiaaZ01
import Derived.Test.YtfplhpkolcgpiaaZ07
import Derived.Test.YtfplhpkolcgpiaaZ08
import Derived.Test.YtfplhpkolcgpiaaZ12
import Derived.Test.YtfplhpkolcgpiaaZ14
import Derived.Test.YtfplhpkolcgpiaaZ15
import Derived.Test.YtfplhpkolcgpiaaZ16
import Derived.Test.YtfplhpkolcgpiaaZ20
namespace Go.Proofs.Ytfplhpkolcgpiaa
open Go.Lib
set_option linter.unusedVariables false
set_option linter.unusedSimpArgs false
theorem tick_mono {a b : Int} (h : a ≤ b) : tickF a ≤ tickF b := by unfold tickF; split <;> split <;> (try split) <;> (try split) <;> omega
theorem later_mono {t m m' : Int} (h : m ≤ m') : laterF t m ≤ laterF t m' := tick_mono (by have := tick_mono h; omega)
theorem later_zero {t : Int} (h : 0 ≤ t) (h' : t ≤ 1099511627776) : laterF t 0 = t := by unfold laterF tickF; simp only [Int.reduceLT, if_false]; split <;> (try split) <;> (try split) <;> omega
theorem exp_again (b : List Sl) (k m : Int) : expB (expB b k m) k m = expB b k m := by unfold expB; rw [List.filter_filter]; simp
theorem exp_later (b : List Sl) {k k' : Int} (m : Int) (h : k ≤ k') : expB (expB b k m) k' m = expB b k' m := by
  unfold expB
  rw [List.filter_filter]
  refine List.filter_congr fun x _ => ?_
  by_cases e : k' ≤ laterF x.2.2 m
  · rw [decide_eq_true e, decide_eq_true (by omega)]; rfl
  · rw [decide_eq_false e]; rfl
theorem exp_len (b : List Sl) {k k' m m' : Int} (h : k' ≤ k) (hm : m ≤ m') : (expB b k m).length ≤ (expB b k' m').length := by
  unfold expB
  rw [← List.countP_eq_length_filter, ← List.countP_eq_length_filter]
  refine List.countP_mono_left fun x _ hx => ?_
  have := later_mono (t := x.2.2) hm
  have := of_decide_eq_true hx
  exact decide_eq_true (by omega)
theorem exp_zero {b : List Sl} (h : bookOk b) : expB b 0 0 = b := by
  unfold expB
  refine List.filter_eq_self.2 fun x _ => decide_eq_true ?_
  exact (tick_bd _).1
theorem exp_old {b : List Sl} (h : ∀ x ∈ b, 0 ≤ x.2.2 ∧ x.2.2 < 1099511627776) : expB b 1099511627776 0 = [] := by
  unfold expB
  refine List.filter_eq_nil_iff.2 fun x hx => ?_
  have := h x hx
  rw [later_zero this.1 (by omega)]
  simpa using this.2
end Go.Proofs.Ytfplhpkolcgpiaa

namespace Go.Proofs.Ytfplhpkolcgpiaa
open Go.RowKit Go.Lib
set_option linter.unusedVariables false
set_option linter.unusedSimpArgs false
theorem repl_mem13 {b : List Sl} {y x : Sl} (h : x ∈ replB b y) : x ∈ b ∨ x = y := by
  induction b with
  | nil => rw [replB] at h; exact .inl h
  | cons z r ih =>
    rw [replB] at h
    split at h
    · rcases List.mem_cons.1 h with h | h
      · exact .inr h
      · exact .inl (List.mem_cons_of_mem _ h)
    · rcases List.mem_cons.1 h with h | h
      · exact .inl (by rw [h]; exact List.mem_cons_self)
      · rcases ih h with h | h
        · exact .inl (List.mem_cons_of_mem _ h)
        · exact .inr h
theorem putV_mem {b : List Sl} {s : List UInt8} {p k : Int} {x : Sl} (h : x ∈ putV b s p k) : x ∈ b ∨ x = (s, p, k) := by
  unfold putV putB at h
  by_cases h0 : putOk s p k = true
  · rw [if_pos h0] at h
    by_cases h1 : hasB b s = true
    · rw [if_pos h1] at h; exact repl_mem13 h
    · rw [if_neg h1] at h
      by_cases h2 : 8 ≤ b.length
      · rw [if_pos h2] at h; cases h
      · rw [if_neg h2] at h
        rcases List.mem_append.1 h with h | h
        · exact .inl h
        · exact .inr (by simpa using h)
  · rw [if_neg h0] at h; cases h
theorem bookTo_tick (zs : List Tr) : ∀ j, ∀ x ∈ bookTo zs j, 0 ≤ x.2.2 ∧ x.2.2 < (j : Int)
  | 0 => fun x hx => by cases hx
  | j + 1 => fun x hx => by
    have ih := bookTo_tick zs j
    have up : ∀ x ∈ bookTo zs j, 0 ≤ x.2.2 ∧ x.2.2 < ((j + 1 : Nat) : Int) := fun x hx => by have := ih x hx; omega
    rw [bookTo] at hx
    split at hx
    · unfold stepB at hx
      split at hx
      · exact up x ((drop_sub _ _).subset hx)
      · split at hx
        · exact up x ((List.mem_filter.1 hx).1)
        · split at hx
          · rcases putV_mem hx with h | h
            · exact up x h
            · rw [h]; show 0 ≤ (j : Int) ∧ (j : Int) < _; omega
          · exact up x hx
    · exact up x hx
theorem bookS_tick (zs : List Tr) : ∀ x ∈ bookS zs, 0 ≤ x.2.2 ∧ x.2.2 < 1099511627776 := fun x hx => by
  have := bookTo_tick zs _ x hx
  have : min zs.length 30 ≤ 30 := Nat.min_le_right _ _
  omega
/-- What is asked of Expire, over a world that went on. -/
abbrev ExpAt (w0 : World) (A : Option Addr) (c : Nat) (b : List Sl) (k m : Int) (o : List Sl) : Prop := ∀ W : World, Rel w0 W → Calls Try.prog 17 #[.slice A b.length c, .int .i64 k, .int .i64 m] W fun e w' => ∃ A2 c2, e = .returned (.slice A2 o.length c2) ∧ Hid (SlArg w' A2 c2 o) ∧ Hid (Rel W w')
theorem exp_at (H : BookOk) {w0 : World} {A : Option Addr} {c : Nat} {b o : List Sl} {k m : Int} (h : SlArg w0 A c b) (hb : bookOk b) (ho : expB b k m = o) : ExpAt w0 A c b k m o := fun W hr => by
  have h1 := H.2.2.1 b A c k m W hr.self (h.rel hr)
  have h2 := book_exp hb k m
  rw [ho] at h1 h2
  exact h1.mono fun e w' ⟨A, c, he, hO, hr2⟩ => ⟨A, c, he, Lib.hid (BkOwn.arg_ok hO h2), Lib.hid hr2⟩
set_option maxRecDepth 100000 in
set_option maxHeartbeats 8000000 in
theorem bookold_any (H : BookOk) (A : Option Addr) (c : Nat) (zs : List Tr) (now most more : Int) (w : World) (hr : Rel w w) (hz : TripsIn w A zs.length zs) (h0 : in64 now) (h1 : in64 most) (h2 : in64 more) :
    Calls Try.prog 6 #[.slice A zs.length c, .int .i64 now, .int .i64 most, .int .i64 more] w fun e w' => e = .returned (.bool true) ∧ Rel w w' := by
  have HH := Lib.hid H
  have HA := Lib.hid (awake13_any H w w hr)
  have HZ := Lib.hid hz
  have hk := pk_bd now 60 (by omega)
  have hm := pk_bd most 30 (by omega)
  have hg := pk_bd more 20 (by omega)
  obtain ⟨K, hK⟩ : ∃ K, pk now 60 = K := ⟨_, rfl⟩
  obtain ⟨M, hM⟩ : ∃ M, pk most 30 = M := ⟨_, rfl⟩
  obtain ⟨G, hG⟩ : ∃ G, pk more 20 = G := ⟨_, rfl⟩
  rw [hK] at hk
  rw [hM] at hm
  rw [hG] at hg
  have HK := Lib.hid hK
  have HM := Lib.hid hM
  have HG := Lib.hid hG
  have I0 := Lib.hid h0
  have I1 := Lib.hid h1
  have I2 := Lib.hid h2
  obtain ⟨b, hb⟩ : ∃ b, bookS zs = b := ⟨_, rfl⟩
  have HBk := Lib.hid (fun (w1 : World) (h : Rel w w1) => book13_any A c zs w1 h.self (hz.rel h))
  rw [hb] at HBk
  have hok : bookOk b := by rw [← hb]; exact bookS_ok zs
  have htk : ∀ x ∈ b, 0 ≤ x.2.2 ∧ x.2.2 < 1099511627776 := by rw [← hb]; exact bookS_tick zs
  have HOk := Lib.hid hok
  have e5 := exp_zero hok
  have e6 := exp_old htk
  obtain ⟨X, hX⟩ : ∃ X, expB b K M = X := ⟨_, rfl⟩
  obtain ⟨Y, hY⟩ : ∃ Y, expB b (K + G) M = Y := ⟨_, rfl⟩
  obtain ⟨Z, hZ⟩ : ∃ Z, expB b K (M + G) = Z := ⟨_, rfl⟩
  have l1 : (Y.length : Int) ≤ (X.length : Int) := by have := exp_len b (k := K + G) (k' := K) (m := M) (m' := M) (by omega) (Int.le_refl _); rw [hX, hY] at this; omega
  have l2 : (X.length : Int) ≤ (Z.length : Int) := by have := exp_len b (k := K) (k' := K) (m := M) (m' := M + G) (Int.le_refl _) (by omega); rw [hX, hZ] at this; omega
  have e3 : expB X K M = X := by rw [← hX]; exact exp_again b K M
  have e4 : expB X (K + G) M = Y := by rw [← hX, ← hY]; exact exp_later b M (by omega)
  have hokX : bookOk X := by rw [← hX]; exact book_exp hok _ _
  have HOX := Lib.hid hokX
  have E1 := Lib.hid hX
  have E2 := Lib.hid hY
  have E3 := Lib.hid hZ
  have E4 := Lib.hid e3
  have E5 := Lib.hid e4
  have E6 := Lib.hid e5
  have E7 := Lib.hid e6
  obtain ⟨hk0, hk1⟩ := hk
  obtain ⟨hm0, hm1⟩ := hm
  obtain ⟨hg0, hg1⟩ := hg
  clear hb hok htk hX hY hZ e3 e4 e5 e6 hokX hK hM hG h0 h1 h2 H hz hr
  go_enter Try.func6, Try.ntmps6
  go_upto_region 2 with (go_at_call 10; (with_reducible refine HA.out.mono ?_); rintro e w1 ⟨rfl, r1⟩; have R1 := Lib.hid r1; clear r1)
  go_upto_region 3 with (go_at_call 11; (with_reducible refine (HBk.out _ R1.out).mono ?_); rintro e w2 ⟨A2, c2, rfl, s2, r2⟩; have S2 := Lib.hid s2; have R2 := Lib.hid (R1.out.trans r2); clear s2 r2)
  go_upto_region 5 with (first
    | (go_at_call 13; (with_reducible refine (pick13_as now 60 K HK I0.out (by omega) (by omega) _).mono ?_); rintro e w3 ⟨rfl, rfl⟩)
    | (go_at_call 13; (with_reducible refine (pick13_as most 30 M HM I1.out (by omega) (by omega) _).mono ?_); rintro e w3 ⟨rfl, rfl⟩))
  have Q2 := Lib.hid R2.out.self
  have X1 := Lib.hid (exp_at HH.out S2.out HOk.out E1.out)
  have X2 := Lib.hid (exp_at HH.out S2.out HOk.out E2.out)
  have X3 := Lib.hid (exp_at HH.out S2.out HOk.out E3.out)
  have X6 := Lib.hid (exp_at HH.out S2.out HOk.out E6.out)
  have X7 := Lib.hid (exp_at HH.out S2.out HOk.out E7.out)
  go_upto_region 8 with (first
    | (go_at_call 13; (with_reducible refine (pick13_as more 20 G HG I2.out (by omega) (by omega) _).mono ?_); rintro e w3 ⟨rfl, rfl⟩)
    | (go_at_call 17; (with_reducible refine (X1.out _ Q2.out).mono ?_); rintro e w3 ⟨A3, c3, rfl, S3, Q3⟩)
    | (go_at_call 17; (with_reducible refine (X2.out _ Q3.out).mono ?_); rintro e w4 ⟨A4, c4, rfl, S4, Q4⟩; have U4 := Lib.hid (Q3.out.trans Q4.out))
    | (go_at_call 17; (with_reducible refine (X3.out _ U4.out).mono ?_); rintro e w5 ⟨A5, c5, rfl, S5, Q5⟩))
  have U5 := Lib.hid (U4.out.trans Q5.out)
  have R5 := Lib.hid (R2.out.trans U5.out)
  have V5 := Lib.hid Q5.out.self
  have Y2 := Lib.hid (S2.out.rel U5.out)
  have Y3 := Lib.hid (S3.out.rel (Q4.out.trans Q5.out))
  have Y4 := Lib.hid (S4.out.rel Q5.out)
  have X4 := Lib.hid (exp_at HH.out Y3.out HOX.out E4.out)
  have X5 := Lib.hid (exp_at HH.out Y3.out HOX.out E5.out)
  have Z6 := Lib.hid (exp_at HH.out Y2.out HOk.out E6.out)
  have Z7 := Lib.hid (exp_at HH.out Y2.out HOk.out E7.out)
  clear X1 X2 X3 X6 X7
  go_wp2_with (first
    | (go_at_call 13; (with_reducible refine (pick13_as more 20 G HG I2.out (by omega) (by omega) _).mono ?_); rintro e w3 ⟨rfl, rfl⟩)
    | (go_at_call 17; (with_reducible refine (X4.out _ V5.out).mono ?_); rintro e w6 ⟨A6, c6, rfl, S6, Q6⟩; have U6 := Lib.hid (V5.out.trans Q6.out))
    | (go_at_call 16; (with_reducible refine (same_at Y3 S6 U6).mono ?_); rintro e w7 ⟨rfl, Q7⟩; have U7 := Lib.hid (U6.out.trans Q7.out))
    | (go_at_call 17; (with_reducible refine (X5.out _ U7.out).mono ?_); rintro e w8 ⟨A8, c8, rfl, S8, Q8⟩; have U8 := Lib.hid (U7.out.trans Q8.out))
    | (go_at_call 16; (with_reducible refine (same_at Y4 S8 U8).mono ?_); rintro e w9 ⟨rfl, Q9⟩; have U9 := Lib.hid (U8.out.trans Q9.out))
    | (go_at_call 17; (with_reducible refine (Z6.out _ U9.out).mono ?_); rintro e w10 ⟨A10, c10, rfl, S10, Q10⟩; have U10 := Lib.hid (U9.out.trans Q10.out))
    | (go_at_call 16; (with_reducible refine (same_at Y2 S10 U10).mono ?_); rintro e w11 ⟨rfl, Q11⟩; have U11 := Lib.hid (U10.out.trans Q11.out))
    | (go_at_call 17; (with_reducible refine (Z7.out _ U11.out).mono ?_); rintro e w12 ⟨A12, c12, rfl, S12, Q12⟩; have U12 := Lib.hid (U11.out.trans Q12.out)))
  go_ret
  exact ⟨rfl, R5.out.trans U12.out⟩
end Go.Proofs.Ytfplhpkolcgpiaa

namespace Go.Proofs.Ytfplhpkolcgpiaa
open Go.RowKit Go.ChangeShapes Go.WideShapes
open Go.Lib
set_option linter.unusedVariables false
set_option linter.unusedSimpArgs false
theorem BookOld_walk (a0 : Option Addr) (len0 cap0 : Nat) (z0 : List Tr) (a1 a2 a3 : Int) (w : World) (w0 : TripsIn w a0 len0 z0) (w1 : (Lit.int .i64 a1).wf = true) (w2 : (Lit.int .i64 a2).wf = true) (w3 : (Lit.int .i64 a3).wf = true) :
    Calls Try.prog 6 #[.slice a0 len0 cap0, .int .i64 a1, .int .i64 a2, .int .i64 a3] w fun e w' => e = .returned (.bool true) ∧ Below w.heap.size w w' := by
  obtain rfl := w0.1.symm
  exact (bookold_any bookProOk a0 cap0 z0 a1 a2 a3 w (Rel.start trivial) w0 (wf64K w1) (wf64K w2) (wf64K w3)).mono fun e w' h => ⟨h.1, h.2.2⟩
end Go.Proofs.Ytfplhpkolcgpiaa
