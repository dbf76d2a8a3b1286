/- The law of layer 13 on lines that come twice; The law of layer 13 on lines that come twice, walked; Raw triples, raw pairs, books and lists of sources as arguments, opened; the seven walks for the shell. -/
import Derived.Test.YtfplhpkolcgpiaaZL
import Derived.Test.YtfplhpkolcgpiaaZ00
import Derived.Test.YtfplhpkolcgpiaaZ01
import Derived.Test.YtfplhpkolcgpiaaZ07
import Derived.Test.YtfplhpkolcgpiaaZ08
import Derived.Test.YtfplhpkolcgpiaaZ10
import Derived.Test.YtfplhpkolcgpiaaZ25
namespace Go.Proofs.Ytfplhpkolcgpiaa
open Go.RowKit Go.Lib
set_option linter.unusedVariables false
set_option linter.unusedSimpArgs false
abbrev FrAt (w0 : World) (A : Option Addr) (c : Nat) (l : List Sn) (S : ByteArray) (n : Int) (o : List Sn) (i : Bool) : Prop := ∀ W : World, Rel w0 W → Calls Try.prog 23 #[.slice A l.length c, .string S, .int .i64 n] W fun e w' => ∃ A2 c2, e = .returned (.tuple #[.slice A2 o.length c2, .bool i, .int .i64 0]) ∧ Hid (SnArg w' A2 c2 o) ∧ Hid (Rel W w')
theorem fr_at (H : BookOk) {w0 : World} {A : Option Addr} {c : Nat} {l o : List Sn} {s : List UInt8} {S : ByteArray} {n : Int} {i : Bool} (h : SnArg w0 A c l) (hs : s.length ≤ 9223372036854775807) (hS : B s = S) (ho : frV l s n = o ∧ frI l s n = i ∧ frE l s n = 0) (hf : SnFit o) (hl : o.length * 24 ≤ 140737488355328) : FrAt w0 A c l S n o i := fun W hr => by
  have h1 := H.2.2.2.2 l s n A c hs W hr.self (h.rel hr)
  unfold FrPost at h1
  rw [ho.1, ho.2.1, ho.2.2, hS] at h1
  exact h1.mono fun e w' ⟨A, c, he, hO, hr2⟩ => ⟨A, c, he, Lib.hid (SnOwn.arg hO hf hl), Lib.hid hr2⟩
theorem sameS_at {w0 W : World} {A A' : Option Addr} {c c' : Nat} {b : List Sn} (h : Hid (SnArg w0 A' c' b)) (h2 : Hid (SnArg w0 A c b)) (hr : Hid (Rel w0 W)) : Calls Try.prog 25 #[.slice A b.length c, .slice A' b.length c'] W fun e w' => e = .returned (.bool true) ∧ Hid (Rel W w') :=
  (rseen13_any b b A A' c c' W hr.out.self (h2.out.rel hr.out).2.2.2.2 (h.out.rel hr.out).2.2.2.2 (by have := h.out.2.2.1; omega) (by have := h.out.2.2.1; omega)).mono fun e w' ⟨he, hr2⟩ => ⟨by rw [he, decide_eq_true rfl], Lib.hid hr2⟩
theorem fok {s : List UInt8} {n : Int} (hs : isName s = true) (h : 1 ≤ n ∧ n ≤ 1000000000000) : freshOk s n = true := by
  unfold freshOk; rw [hs, decide_eq_true h]; rfl
/-- What was told of s and of t. -/
def twoN (s t : List UInt8) (n : Int) : List Sn := if s = t then [(s, n + 1)] else [(s, n), (t, n + 1)]
theorem two_first {s t : List UInt8} {n : Int} : ∃ m r, twoN s t n = (s, m) :: r ∧ n ≤ m ∧ m ≤ n + 1 := by
  unfold twoN
  split
  · exact ⟨n + 1, [], rfl, by omega, by omega⟩
  · exact ⟨n, [(t, n + 1)], rfl, by omega, by omega⟩
theorem tw_one {s : List UInt8} {n : Int} (hs : isName s = true) (h0 : 1 ≤ n) (h1 : n ≤ 100000) : frV [] s n = [(s, n)] ∧ frI [] s n = true ∧ frE [] s n = 0 :=
  fr_new (l := []) (fok hs (by omega)) (fun k hk => by simp at hk) (by simp)
theorem tw_two {s t : List UInt8} {n : Int} (ht : isName t = true) (h0 : 1 ≤ n) (h1 : n ≤ 100000) : frV [(s, n)] t (n + 1) = twoN s t n ∧ frI [(s, n)] t (n + 1) = true ∧ frE [(s, n)] t (n + 1) = 0 := by
  unfold twoN
  by_cases e : s = t
  · subst e
    rw [if_pos rfl]
    exact fr_set (l := [(s, n)]) (i := 0) (fok ht (by omega)) (by simp) rfl (fun k hk h => by omega) (by show n < n + 1; omega)
  · rw [if_neg e]
    exact fr_new (l := [(s, n)]) (fok ht (by omega)) (fun k hk => by
      have : k = 0 := by simpa using hk
      subst this; exact e) (by simp)
theorem tw_old {s t : List UInt8} {n m : Int} (hs : isName s = true) (h0 : 1 ≤ m) (h1 : m ≤ n) (h2 : n ≤ 100000) : frV (twoN s t n) s m = twoN s t n ∧ frI (twoN s t n) s m = false ∧ frE (twoN s t n) s m = 0 := by
  obtain ⟨q, r, e, h3, h4⟩ := two_first (s := s) (t := t) (n := n)
  rw [e]
  exact fr_old (i := 0) (fok hs (by omega)) (by simp) rfl (fun k hk h => by omega) (by show ¬ q < m; omega)
theorem tw_next {s t : List UInt8} {n : Int} (hs : isName s = true) (h0 : 1 ≤ n) (h2 : n ≤ 100000) : frI (twoN s t n) s (n + 2) = true ∧ frE (twoN s t n) s (n + 2) = 0 := by
  obtain ⟨q, r, e, h3, h4⟩ := two_first (s := s) (t := t) (n := n)
  have hf := fr_set (l := (s, q) :: r) (i := 0) (n := n + 2) (fok hs (by omega)) (by simp) rfl (fun k hk h => by omega) (by show q < n + 2; omega)
  rw [e]; exact hf.2
theorem one_fit {s : List UInt8} {n : Int} (hs : isName s = true) (h0 : 1 ≤ n) (h2 : n ≤ 100000) : SnFit [(s, n)] := fun x hx => by
  obtain rfl : x = (s, n) := by simpa using hx
  have := bname_len hs
  exact ⟨by show s.length ≤ _; omega, by unfold in64; show _ ≤ n ∧ n ≤ _; omega⟩
theorem two_fit {s t : List UInt8} {n : Int} (hs : isName s = true) (ht : isName t = true) (h0 : 1 ≤ n) (h2 : n ≤ 90000) : SnFit (twoN s t n) := fun x hx => by
  unfold twoN at hx
  split at hx
  · exact one_fit hs (by omega) (by omega) x hx
  · rcases List.mem_cons.1 hx with h | h
    · exact one_fit hs h0 (by omega) x (by rw [h]; simp)
    · exact one_fit ht (by omega) (by omega) x h
theorem two_len {s t : List UInt8} {n : Int} : (twoN s t n).length * 24 ≤ 140737488355328 := by
  unfold twoN; split <;> simp
abbrev FrLast (w0 : World) (A : Option Addr) (c : Nat) (l : List Sn) (S : ByteArray) (n : Int) (i : Bool) : Prop := ∀ W : World, Rel w0 W → Calls Try.prog 23 #[.slice A l.length c, .string S, .int .i64 n] W fun e w' => ∃ A2 L c2, e = .returned (.tuple #[.slice A2 L c2, .bool i, .int .i64 0]) ∧ Hid (Rel W w')
theorem fr_last (H : BookOk) {w0 : World} {A : Option Addr} {c : Nat} {l : List Sn} {s : List UInt8} {S : ByteArray} {n : Int} {i : Bool} (h : SnArg w0 A c l) (hs : s.length ≤ 9223372036854775807) (hS : B s = S) (ho : frI l s n = i ∧ frE l s n = 0) : FrLast w0 A c l S n i := fun W hr => by
  have h1 := H.2.2.2.2 l s n A c hs W hr.self (h.rel hr)
  unfold FrPost at h1
  rw [ho.1, ho.2, hS] at h1
  exact h1.mono fun e w' ⟨A, c, he, hO, hr2⟩ => ⟨A, _, c, he, Lib.hid hr2⟩
end Go.Proofs.Ytfplhpkolcgpiaa

namespace Go.Proofs.Ytfplhpkolcgpiaa
open Go.RowKit Go.Lib
set_option linter.unusedVariables false
set_option linter.unusedSimpArgs false
set_option maxRecDepth 100000 in
set_option maxHeartbeats 8000000 in
theorem booktwice_any (H : BookOk) (one two seq less : Int) (w : World) (hr : Rel w w) (h0 : in64 one) (h1 : in64 two) (h2 : in64 seq) (h3 : in64 less) :
    Calls Try.prog 7 #[.int .i64 one, .int .i64 two, .int .i64 seq, .int .i64 less] w fun e w' => e = .returned (.bool true) ∧ Rel w w' := by
  have HH := Lib.hid H
  have HA := Lib.hid (awake13_any H w w hr)
  have ns := seller_name (pk one 60) (pk_bd one 60 (by omega)).1 (pk_bd one 60 (by omega)).2
  have nt := seller_name (pk two 60) (pk_bd two 60 (by omega)).1 (pk_bd two 60 (by omega)).2
  obtain ⟨s, hs⟩ : ∃ s, sellerL (pk one 60) = s := ⟨_, rfl⟩
  obtain ⟨t, ht⟩ : ∃ s, sellerL (pk two 60) = s := ⟨_, rfl⟩
  rw [hs] at ns
  rw [ht] at nt
  obtain ⟨S, hS⟩ : ∃ S, B s = S := ⟨_, rfl⟩
  obtain ⟨T, hT⟩ : ∃ S, B t = S := ⟨_, rfl⟩
  have CS := Lib.hid (sel_at (z := one) (S := S) (by rw [hs, hS]) h0)
  have CT := Lib.hid (sel_at (z := two) (S := T) (by rw [ht, hT]) h1)
  have hp := pk_bd seq 1000 (by omega)
  obtain ⟨P, hP⟩ : ∃ P, pk seq 1000 = P := ⟨_, rfl⟩
  rw [hP] at hp
  have HP := Lib.hid hP
  obtain ⟨hp0, hp1⟩ := hp
  obtain ⟨N, hN⟩ : ∃ N, 2 + P = N := ⟨_, rfl⟩
  have n0 : 2 ≤ N := by omega
  have n1 : N ≤ 1001 := by omega
  have hq := pk_bd less (N - 1) (by omega)
  obtain ⟨Q, hQ⟩ : ∃ Q, pk less (N - 1) = Q := ⟨_, rfl⟩
  rw [hQ] at hq
  have HQ := Lib.hid hQ
  have I2 := Lib.hid h2
  have I3 := Lib.hid h3
  have HN := Lib.hid hN
  obtain ⟨hq0, hq1⟩ := hq
  have F1 := Lib.hid (tw_one (n := N) ns (by omega) (by omega))
  have F2 := Lib.hid (tw_two (s := s) (n := N) nt (by omega) (by omega))
  have F3 := Lib.hid (tw_old (t := t) (n := N) (m := N) ns (by omega) (by omega) (by omega))
  have F4 := Lib.hid (tw_old (t := t) (n := N) (m := 1 + Q) ns (by omega) (by omega) (by omega))
  have F5 := Lib.hid (tw_next (t := t) (n := N) ns (by omega) (by omega))
  have G1 := Lib.hid (one_fit (n := N) ns (by omega) (by omega))
  have G2 := Lib.hid (two_fit (n := N) ns nt (by omega) (by omega))
  have LS := Lib.hid (show s.length ≤ 9223372036854775807 by have := bname_len ns; omega)
  have LT := Lib.hid (show t.length ≤ 9223372036854775807 by have := bname_len nt; omega)
  have HS := Lib.hid hS
  have HT := Lib.hid hT
  have G3 := Lib.hid (two_len (s := s) (t := t) (n := N))
  obtain ⟨D, hD⟩ : ∃ D, twoN s t N = D := ⟨_, rfl⟩
  rw [hD] at F2 F3 F4 F5 G2 G3
  have G0 := Lib.hid (show [(s, N)].length * 24 ≤ 140737488355328 by simp)
  obtain ⟨O, hO⟩ : ∃ O, [(s, N)] = O := ⟨_, rfl⟩
  rw [hO] at F1 F2 G1 G0
  have V0 := Lib.hid (show FrAt w none 0 [] S N O true from fr_at HH.out (SnArg.nil w) LS.out hS F1.out G1.out G0.out)
  obtain ⟨lD, hlD⟩ : ∃ n, D.length = n := ⟨_, rfl⟩
  obtain ⟨lO, hlO⟩ : ∃ n, O.length = n := ⟨_, rfl⟩
  have WD := Lib.hid hlD
  have WO := Lib.hid hlO
  clear H hr ns nt hs ht hS hT hP hQ h0 h1 h2 h3 hD hO hN hlD hlO
  go_enter Try.func7, Try.ntmps7
  go_upto_region 2 with (go_at_call 10; (with_reducible refine HA.out.mono ?_); rintro e w1 ⟨rfl, r1⟩; have R1 := Lib.hid r1; have U1 := Lib.hid r1.self; clear r1)
  clear HA
  go_upto_region 3 with (go_at_call 12; (with_reducible refine (CS.out _ U1.out).mono ?_); rintro e w2 ⟨rfl, r2⟩; have R2 := Lib.hid (R1.out.trans r2.out); have U2 := Lib.hid r2.out.self; clear r2)
  clear CS R1 U1
  go_upto_region 4 with (go_at_call 12; (with_reducible refine (CT.out _ U2.out).mono ?_); rintro e w3 ⟨rfl, r3⟩; have R3 := Lib.hid (R2.out.trans r3.out); clear r3)
  clear CT R2 U2
  go_upto_region 5 with (go_at_call 13; (with_reducible refine (pick13_as seq 1000 P HP I2.out (by omega) (by omega) _).mono ?_); rintro e w4 ⟨rfl, rfl⟩)
  rw [HN.out]
  clear HP I2 HN hp0 hp1
  have C0 := Lib.hid (show Calls Try.prog 23 #[.slice none 0 0, .string S, .int .i64 N] w3 (fun e w' => ∃ A2 c2, e = .returned (.tuple #[.slice A2 lO c2, .bool true, .int .i64 0]) ∧ Hid (SnArg w' A2 c2 O) ∧ Hid (Rel w3 w')) from by have h := V0.out w3 R3.out; rw [WO.out] at h; exact h)
  go_upto_region 6 with (go_at_call 23; (with_reducible refine C0.out.mono ?_); rintro e w5 ⟨A5, c5, rfl, S5, r5⟩; have R5 := Lib.hid (R3.out.trans r5.out); have Z5 := Lib.hid r5.out.self; clear r5)
  have V5 := Lib.hid (show FrAt w5 A5 c5 O T (N + 1) D true from fr_at HH.out S5.out LT.out HT.out F2.out G2.out G3.out)
  have C5 := Lib.hid (show Calls Try.prog 23 #[.slice A5 lO c5, .string T, .int .i64 (N + 1)] w5 (fun e w' => ∃ A2 c2, e = .returned (.tuple #[.slice A2 lD c2, .bool true, .int .i64 0]) ∧ Hid (SnArg w' A2 c2 D) ∧ Hid (Rel w5 w')) from by have h := V5.out w5 Z5.out; rw [WO.out, WD.out] at h; exact h)
  clear V0 C0 V5
  go_upto_region 7 with (go_at_call 23; (with_reducible refine C5.out.mono ?_); rintro e w6 ⟨A6, c6, rfl, S6, r6⟩; have R6 := Lib.hid (R5.out.trans r6.out); have Z6 := Lib.hid r6.out.self; clear r6)
  have V6 := Lib.hid (show FrAt w6 A6 c6 D S N D false from fr_at HH.out S6.out LS.out HS.out F3.out G2.out G3.out)
  have C6 := Lib.hid (show Calls Try.prog 23 #[.slice A6 lD c6, .string S, .int .i64 N] w6 (fun e w' => ∃ A2 c2, e = .returned (.tuple #[.slice A2 lD c2, .bool false, .int .i64 0]) ∧ Hid (SnArg w' A2 c2 D) ∧ Hid (Rel w6 w')) from by have h := V6.out w6 Z6.out; rw [WD.out] at h; exact h)
  clear C5 V6
  go_upto_region 8 with (go_at_call 23; (with_reducible refine C6.out.mono ?_); rintro e w7 ⟨A7, c7, rfl, S7, r7⟩; have R7 := Lib.hid (R6.out.trans r7.out); have Z7 := Lib.hid r7.out.self; have Y6 := Lib.hid (S6.out.rel r7.out); clear r7)
  have V7 := Lib.hid (show FrLast w7 A7 c7 D S (1 + Q) false from fr_last HH.out S7.out LS.out HS.out F4.out.2)
  have C7 := Lib.hid (show Calls Try.prog 23 #[.slice A7 lD c7, .string S, .int .i64 (1 + Q)] w7 (fun e w' => ∃ A2 L c2, e = .returned (.tuple #[.slice A2 L c2, .bool false, .int .i64 0]) ∧ Hid (Rel w7 w')) from by have h := V7.out w7 Z7.out; rw [WD.out] at h; exact h)
  clear C6 V7
  go_upto_region 9 with (first
    | (go_at_call 13; (with_reducible refine (pick13_as less (N - 1) Q HQ I3.out (by omega) (by omega) _).mono ?_); rintro e w4 ⟨rfl, rfl⟩)
    | (go_at_call 23; (with_reducible refine C7.out.mono ?_); rintro e w8 ⟨A8, L8, c8, rfl, r8⟩; have R8 := Lib.hid r8.out))
  have V8 := Lib.hid (show FrLast w7 A7 c7 D S (N + 2) true from fr_last HH.out S7.out LS.out HS.out F5.out)
  have C8 := Lib.hid (show Calls Try.prog 23 #[.slice A7 lD c7, .string S, .int .i64 (N + 2)] w8 (fun e w' => ∃ A2 L c2, e = .returned (.tuple #[.slice A2 L c2, .bool true, .int .i64 0]) ∧ Hid (Rel w8 w')) from by have h := V8.out w8 R8.out; rw [WD.out] at h; exact h)
  clear C7 V8
  go_upto_region 10 with (go_at_call 23; (with_reducible refine C8.out.mono ?_); rintro e w9 ⟨A9, L9, c9, rfl, r9⟩; have R9 := Lib.hid (R8.out.trans r9.out); clear r9)
  have C9 := Lib.hid (show Calls Try.prog 25 #[.slice A6 lD c6, .slice A7 lD c7] w9 (fun e w' => e = .returned (.bool true) ∧ Hid (Rel w9 w')) from by have h := sameS_at S7 Y6 R9; rw [WD.out] at h; exact h)
  clear C8
  go_wp2_with (go_at_call 25; (with_reducible refine C9.out.mono ?_); rintro e w10 ⟨rfl, R10⟩)
  go_ret
  exact ⟨rfl, R7.out.trans (R9.out.trans R10.out)⟩
end Go.Proofs.Ytfplhpkolcgpiaa

namespace Go.Proofs.Ytfplhpkolcgpiaa
open Go.RowKit Go.ChangeShapes Go.WideShapes
open Go.Lib
set_option linter.unusedVariables false
set_option linter.unusedSimpArgs false
theorem BookTwice_walk (a0 a1 a2 a3 : Int) (w : World) (w0 : (Lit.int .i64 a0).wf = true) (w1 : (Lit.int .i64 a1).wf = true) (w2 : (Lit.int .i64 a2).wf = true) (w3 : (Lit.int .i64 a3).wf = true) :
    Calls Try.prog 7 #[.int .i64 a0, .int .i64 a1, .int .i64 a2, .int .i64 a3] w fun e w' => e = .returned (.bool true) ∧ Below w.heap.size w w' :=
  (booktwice_any bookProOk a0 a1 a2 a3 w (Rel.start trivial) (wf64K w0) (wf64K w1) (wf64K w2) (wf64K w3)).mono fun e w' h => ⟨h.1, h.2.2⟩
end Go.Proofs.Ytfplhpkolcgpiaa
