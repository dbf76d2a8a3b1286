/- Plain mathematics of layer 11: order, steps, a deep stack. No program in this text; Plain mathematics of layer 11: code of raw numbers; what is first cut off. No program in this text; RunDeep, over what the program is asked. -/
import Derived.Test.YtcckemhelockaaaGreatDoorZL
import Derived.Test.YtcckemhelockaaaGreatDoorZ00
import Derived.Test.YtcckemhelockaaaGreatDoorZ01
import Derived.Test.YtcckemhelockaaaGreatDoorZ02
import Derived.Test.YtcckemhelockaaaGreatDoorZ03
import Derived.Test.YtcckemhelockaaaGreatDoorZ04
import Derived.Test.YtcckemhelockaaaGreatDoorZ07
import Derived.Test.YtcckemhelockaaaGreatDoorZ09
import Derived.Test.YtcckemhelockaaaGreatDoorZ15
import Derived.Test.YtcckemhelockaaaGreatDoorZ16
import Derived.Test.YtcckemhelockaaaGreatDoorZ18
import Derived.Test.YtcckemhelockaaaGreatDoorZ21
import Derived.Test.YtcckemhelockaaaGreatDoorZ22
import Derived.Test.YtcckemhelockaaaGreatDoorZ25
import Derived.Test.YtcckemhelockaaaGreatDoorZ28
import Derived.Test.YtcckemhelockaaaGreatDoorZ29
import Derived.Test.YtcckemhelockaaaGreatDoorZ43
namespace Go.Proofs.YtcckemhelockaaaGreatDoor
open Go.Lib
set_option linter.unusedVariables false
set_option linter.unusedSimpArgs false
/-- Numbers pushed, one behind the other. -/
def pushL (a : Nat) : Nat → List In
  | 0 => []
  | k + 1 => pushL a k ++ [(1, ((a + k : Nat) : Int), [])]
def numL (a : Nat) : Nat → List Ce
  | 0 => []
  | k + 1 => numL a k ++ [some ((a + k : Nat) : Int)]
theorem push_len (a k : Nat) : (pushL a k).length = k := by
  induction k with
  | zero => rfl
  | succ k ih => rw [pushL, List.length_append, ih]; rfl
theorem num_lenL (a k : Nat) : (numL a k).length = k := by
  induction k with
  | zero => rfl
  | succ k ih => rw [numL, List.length_append, ih]; rfl
def maxL : Nat → List In
  | 0 => []
  | k + 1 => maxL k ++ [(8, 0, [])]
theorem max_len (k : Nat) : (maxL k).length = k := by
  induction k with
  | zero => rfl
  | succ k ih => rw [maxL, List.length_append, ih]; rfl
theorem push_get {a k i : Nat} (h : i < k) : (pushL a k)[i]? = some (1, ((a + i : Nat) : Int), []) := by
  induction k with
  | zero => omega
  | succ k ih =>
    rw [pushL]
    by_cases e : i < k
    · rw [List.getElem?_append_left (by rw [push_len]; exact e), ih e]
    · obtain rfl : i = k := by omega
      rw [List.getElem?_append_right (by rw [push_len]; omega), push_len, Nat.sub_self]; rfl
theorem max_get {k i : Nat} (h : i < k) : (maxL k)[i]? = some (8, 0, []) := by
  induction k with
  | zero => omega
  | succ k ih =>
    rw [maxL]
    by_cases e : i < k
    · rw [List.getElem?_append_left (by rw [max_len]; exact e), ih e]
    · obtain rfl : i = k := by omega
      rw [List.getElem?_append_right (by rw [max_len]; omega), max_len, Nat.sub_self]; rfl
theorem go_push {l : List Of} {c : List In} (hf : Fwd c) {a k : Nat} (hc : ∀ i, i < k → c[i]? = some (1, ((a + i : Nat) : Int), [])) : ∀ j, j ≤ k → j ≤ 100 → goM l c 0 ([], 0) 0 = goM l c j (numL a j, 0) j := by
  intro j
  induction j with
  | zero => intro _ _; rfl
  | succ j ih =>
    intro h1 h2
    rw [ih (by omega) (by omega), go_step hf (hc j (by omega))]
    have e : stepM l (1, ((a + j : Nat) : Int), []) j (numL a j, 0) = (j + 1, putM (numL a j, 0) (some ((a + j : Nat) : Int))) := rfl
    rw [e, put_room (by rw [num_lenL]; omega)]; rfl
theorem go_max {l : List Of} {c : List In} (hf : Fwd c) {a m p : Nat} {v : Int} (hv : ∀ i, i < m → ((a + i : Nat) : Int) ≤ v) (hc : ∀ i, i < m → c[p + i]? = some (8, 0, [])) (hm : m ≤ 99) : ∀ j, j ≤ m → ∀ n, goM l c p (numL a m ++ [some v], 0) n = goM l c (p + j) (numL a (m - j) ++ [some v], 0) (n + j) := by
  intro j
  induction j with
  | zero => intro _ n; rfl
  | succ j ih =>
    intro h1 n
    rw [ih (by omega) n, go_step hf (hc j (by omega))]
    obtain ⟨q, hq⟩ : ∃ q, m - j = q + 1 := ⟨m - j - 1, by omega⟩
    rw [hq, numL, step_two (.inr (.inl rfl)), put_room (by rw [num_lenL]; omega), show m - (j + 1) = q by omega]
    have e : twoC 8 (some ((a + q : Nat) : Int)) (some v) = some v := by
      show some (max ((a + q : Nat) : Int) v) = some v
      rw [Int.max_eq_right (hv q (by omega))]
    rw [e]; rfl
/-- So many numbers, the greatest told. -/
def deepC (a k m : Nat) : List In := pushL a k ++ maxL m
theorem deep_len (a k m : Nat) : (deepC a k m).length = k + m := by unfold deepC; rw [List.length_append, push_len, max_len]
theorem deep_push {a k m i : Nat} (h : i < k) : (deepC a k m)[i]? = some (1, ((a + i : Nat) : Int), []) := by
  unfold deepC; rw [List.getElem?_append_left (by rw [push_len]; exact h)]; exact push_get h
theorem deep_max {a k m i : Nat} (h : i < m) : (deepC a k m)[k + i]? = some (8, 0, []) := by
  unfold deepC; rw [List.getElem?_append_right (by rw [push_len]; omega), push_len, show k + i - k = i by omega]; exact max_get h
theorem deep_ok {a k m : Nat} (h : a + k ≤ 1000) (h' : k + m ≤ 5000) : codeOk (deepC a k m) = true := good_ok (fun i hi => by
  rw [deep_len] at hi
  rw [Nat.zero_add]
  by_cases e : i < k
  · have h1 := deep_push (a := a) (m := m) e
    rw [List.getElem?_eq_getElem (by rw [deep_len]; exact hi)] at h1
    rw [Option.some.inj h1]
    unfold inOk leastO mostO
    have e1 : isTo 1 = false := rfl
    simp only [e1]
    simp
    omega
  · have h1 := deep_max (a := a) (k := k) (m := m) (i := i - k) (by omega)
    rw [show k + (i - k) = i by omega, List.getElem?_eq_getElem (by rw [deep_len]; exact hi)] at h1
    rw [Option.some.inj h1]; rfl) (by rw [deep_len]; exact h')
theorem deep_told {l : List Of} (ho : offsOk l = true) {a k : Nat} (h0 : 1 ≤ k) (hk : k ≤ 100) (ha : a + k ≤ 1000) : runS l (deepC a k (k - 1)) = .ok (some ((a + k - 1 : Nat) : Int)) ∧ stepsS l (deepC a k (k - 1)) = 2 * k - 1 := by
  have hc := deep_ok (m := k - 1) ha (by omega)
  have hf := fwd_of hc
  obtain ⟨r1, r2⟩ := run_yes ho hc
  obtain ⟨q, rfl⟩ : ∃ q, k = q + 1 := ⟨k - 1, by omega⟩
  have e1 := go_push (l := l) hf (a := a) (k := q + 1) (fun i hi => deep_push hi) (q + 1) (Nat.le_refl _) hk
  have e2 := go_max (l := l) hf (a := a) (m := q) (p := q + 1) (v := ((a + q : Nat) : Int)) (fun i hi => by omega) (fun i hi => deep_max (a := a) (k := q + 1) (m := q + 1 - 1) (by omega)) (by omega) q (Nat.le_refl _) (q + 1)
  rw [r1, r2, e1, numL, e2, Nat.sub_self, go_end _ _ _ _ _ (by rw [deep_len]; omega)]
  refine ⟨?_, ?_⟩
  · show Except.ok (some ((a + q : Nat) : Int)) = _
    rw [show a + (q + 1) - 1 = a + q by omega]
  · show q + 1 + q = _
    omega
theorem deep_full {l : List Of} (ho : offsOk l = true) {a k m : Nat} (hk : 100 < k) (ha : a + k ≤ 1000) (hm : k + m ≤ 5000) : runS l (deepC a k m) = .error 100 ∧ stepsS l (deepC a k m) = 101 := by
  have hc := deep_ok ha hm
  have hf := fwd_of hc
  obtain ⟨r1, r2⟩ := run_yes ho hc
  have e1 := go_push (l := l) hf (a := a) (k := k) (fun i hi => deep_push hi) 100 (by omega) (Nat.le_refl _)
  have e2 : stepM l (1, ((a + 100 : Nat) : Int), []) 100 (numL a 100, 0) = (101, putM (numL a 100, 0) (some ((a + 100 : Nat) : Int))) := rfl
  rw [r1, r2, e1, go_step hf (deep_push hk), e2, put_full (by rw [num_lenL]; omega), go_err _ _ _ _ _ (show (100 : Int) ≠ 0 by decide)]
  exact ⟨rfl, rfl⟩
theorem deep_few {l : List Of} (ho : offsOk l = true) {a k : Nat} (h0 : 1 ≤ k) (hk : k ≤ 100) (ha : a + k ≤ 1000) : runS l (deepC a k k) = .error 100 := by
  have hc := deep_ok (m := k) ha (by omega)
  have hf := fwd_of hc
  obtain ⟨r1, r2⟩ := run_yes ho hc
  obtain ⟨q, rfl⟩ : ∃ q, k = q + 1 := ⟨k - 1, by omega⟩
  have e1 := go_push (l := l) hf (a := a) (k := q + 1) (fun i hi => deep_push hi) (q + 1) (Nat.le_refl _) hk
  have e2 := go_max (l := l) hf (a := a) (m := q) (p := q + 1) (v := ((a + q : Nat) : Int)) (fun i hi => by omega) (fun i hi => deep_max (a := a) (k := q + 1) (m := q + 1) (by omega)) (by omega) q (Nat.le_refl _) (q + 1)
  have e3 : stepM l (8, 0, []) (q + 1 + q) ([some ((a + q : Nat) : Int)], 0) = (q + 1 + q + 1, ([], 100)) := by
    have e4 : twoM 8 ([some ((a + q : Nat) : Int)], 0) = ([], 100) := by
      have t1 : takeM ([some ((a + q : Nat) : Int)], 0) = (some ((a + q : Nat) : Int), ([], 0)) := take_last [] _
      unfold twoM; rw [t1]; simp only; rw [take_none]; exact put_err (by decide) _
    exact congrArg (Prod.mk (q + 1 + q + 1)) e4
  rw [r1, e1, numL, e2, Nat.sub_self]
  show endR (goM l (deepC a (q + 1) (q + 1)) (q + 1 + q) ([some ((a + q : Nat) : Int)], 0) (q + 1 + q)).1 = _
  rw [go_step hf (deep_max (a := a) (k := q + 1) (m := q + 1) (i := q) (by omega)), e3, go_err _ _ _ _ _ (show (100 : Int) ≠ 0 by decide)]; rfl
end Go.Proofs.YtcckemhelockaaaGreatDoor

namespace Go.Proofs.YtcckemhelockaaaGreatDoor
open Go.Lib
set_option linter.unusedVariables false
set_option linter.unusedSimpArgs false
theorem push_cons (a k : Nat) : pushL a (k + 1) = (1, (a : Int), []) :: pushL (a + 1) k := by
  induction k with
  | zero => rfl
  | succ k ih =>
    rw [pushL, ih, pushL, List.cons_append, show a + (k + 1) = a + 1 + k by omega]
theorem deep_drop (a k m : Nat) : (deepC a (k + 1) m).drop 1 = deepC (a + 1) k m := by
  unfold deepC
  rw [push_cons]; rfl
end Go.Proofs.YtcckemhelockaaaGreatDoor

namespace Go.Proofs.YtcckemhelockaaaGreatDoor
open Go.RowKit Go.Lib
set_option linter.unusedVariables false
set_option linter.unusedSimpArgs false
/-- A call of Run and of Steps, of slices whose lengths are named. -/
theorem run_ln (H : RunsOk) (l : List In) (os : List Of) (n m : Nat) (v e : Int) (b : Bool) (hv : Hid (RV (runS os l) = .tuple #[.int .i64 v, .bool b, .int .i64 e])) (hn : Hid (l.length = n)) (hm : Hid (os.length = m)) (A A' : Option Addr) (c c' : Nat) (w0 w : World) (hr : Rel w0 w) (h : InsArg w A c l) (ho : OffArg w A' c' os) :
    Calls Tryz.prog 13 #[.slice A n c, .slice A' m c'] w fun r w' => r = .returned (.tuple #[.int .i64 v, .bool b, .int .i64 e]) ∧ Rel w0 w' := by
  rw [← hn.out, ← hm.out]; exact runl_at H l os v e b hv A A' c c' w0 w hr h ho
theorem steps_ln (H : RunsOk) (l : List In) (os : List Of) (n m k : Nat) (hv : Hid (stepsS os l = k)) (hn : Hid (l.length = n)) (hm : Hid (os.length = m)) (A A' : Option Addr) (c c' : Nat) (w0 w : World) (hr : Rel w0 w) (h : InsArg w A c l) (ho : OffArg w A' c' os) :
    Calls Tryz.prog 15 #[.slice A n c, .slice A' m c'] w fun r w' => r = .returned (.int .i64 (k : Int)) ∧ Rel w0 w' := by
  rw [← hn.out, ← hm.out]; exact steps_at H l os k hv A A' c c' w0 w hr h ho
theorem rcright_ln (l : List In) (n : Nat) (hb : Hid (codeOk l = true)) (hn : Hid (l.length = n)) (A : Option Addr) (c : Nat) (w0 w : World) (hr : Rel w0 w) (h : InsArg w A c l) :
    Calls Tryz.prog 22 #[.slice A n c] w fun e w' => e = .returned (.bool true) ∧ Rel w0 w' := by
  rw [← hn.out, ← hb.out]; exact rright10_any A c l w0 w hr h
theorem deep_fit {a k m : Nat} (h : a + k ≤ 1000) (h' : k + m ≤ 5000) : InsFit (deepC a k m) := ins_fit (deep_ok h h')
theorem deep_nil (a k : Nat) : deepC a k 0 = pushL a k := by unfold deepC maxL; exact List.append_nil _
theorem deep_more (a k q : Nat) : deepC a k q ++ [(8, 0, [])] = deepC a k (q + 1) := by unfold deepC; rw [maxL, List.append_assoc]
set_option maxRecDepth 100000 in
set_option maxHeartbeats 8000000 in
theorem RunDeep_at (H : RunsOk) (n : Int) (hn : i64 n) (A : Option Addr) (c : Nat) (zs : List (Int × Int)) (w : World) (hr : Rel w w) (hz : PairsIn w A zs.length zs) :
    Calls Tryz.prog 6 #[.int .i64 n, .slice A zs.length c] w fun e w' => e = .returned (.bool true) ∧ Rel w w' := by
  have H := Lib.hid H
  have HR := Lib.hid hr
  have HZ := Lib.hid hz
  obtain ⟨os, hos⟩ : ∃ os, offS zs = os := ⟨_, rfl⟩
  obtain ⟨M, hM⟩ : ∃ M, os.length = M := ⟨_, rfl⟩
  have hOf := fun (w0 w : World) (hr : Rel w0 w) (hz : PairsIn w A zs.length zs) => offers_any A c zs w0 w hr hz
  rw [hos, hM] at hOf
  have HOf := Lib.hid hOf
  have HM := Lib.hid hM
  have hok : offsOk os = true := by rw [← hos]; exact offS_ok zs
  have HFit := Lib.hid (offs_fit hok)
  have hkb := pk_bd n 5 (by omega)
  obtain ⟨p, hp⟩ : ∃ p : Nat, pk n 5 = (p : Int) := ⟨(pk n 5).toNat, by omega⟩
  have HP := Lib.hid hp
  obtain ⟨k, hk⟩ : ∃ k : Nat, 98 + p = k := ⟨_, rfl⟩
  have hk0 : 98 ≤ k := by omega
  have hk1 : k ≤ 102 := by omega
  have hw1 : IntKind.i64.wrap (98 + (p : Int)) = (k : Int) := by rw [IntWalk.i64_in _ (by omega)]; omega
  have HOk := Lib.hid hok
  obtain ⟨n0, n1⟩ := hn
  clear hos hM hr hz hOf hok hp hkb hk
  go_enter Tryz.func6, Tryz.ntmps6
  go_upto_region 3 with (first
    | (go_at_call 10; (with_reducible refine (awake11_any H.out _ _ HR.out).mono ?_); rintro e1 w1 ⟨rfl, h1⟩; have R1 := Lib.hid h1)
    | (go_at_call 21; (with_reducible refine (pk11_as n 5 (p : Int) HP n0 n1 (by omega) (by omega) _).mono ?_); rintro e w' ⟨rfl, rfl⟩))
  have S1 := Lib.hid (show Rel w1 w1 from R1.out.right3)
  clear hw1 n0 n1 h1
  go_upto_block 0 with (fail)
  go_cut [7] (fun v wx => ∃ (A2 : Option Addr) (c2 : Nat), v = .slice A2 k c2 ∧ InsOwn wx w1.heap.size (.slice A2 k c2) (pushL 0 k) ∧ Rel w1 wx)
  case first =>
    go_wp2_with (fail)
    go_loopw [7, 8] (fun v i wr => ∃ (j : Nat) (A2 : Option Addr) (c2 : Nat), j ≤ k ∧ i = .int .i64 (j : Int) ∧ v = .slice A2 j c2 ∧ InsOwn wr w1.heap.size (.slice A2 j c2) (pushL 0 j) ∧ Rel w1 wr) (fun _ i _ => k - (RowKit.intOf i).toNat)
    case atStart => exact ⟨0, none, 0, by omega, rfl, rfl, InsOwn.nil _ _, S1.out⟩
    case round =>
      obtain ⟨j, A2, c2, hj, rfl, rfl, hO, hRw⟩ := hrel
      have HRw := Lib.hid hRw
      have HO := Lib.hid hO
      clear hO hRw
      by_cases hlt : j < k
      · have q1 : IntKind.i64.wrap ((j : Int) + 1) = (j : Int) + 1 := IntWalk.i64_in _ (by omega)
        have hrs : w1.heap.size ≤ (wr.alloc (.cells #[.int .i64 1, .int .i64 (j : Int), .string ⟨#[]⟩] 45)).heap.size := (HRw.out.alloc _).size
        have HIn := Lib.hid (InsAt.of_bk (l := [(1, (j : Int), [])]) (Bk.new wr 45 #[.int .i64 1, .int .i64 (j : Int), .string ⟨#[]⟩]))
        go_wp2_with (at_builtin; (refine wpList_plain rfl fun K' hK => wp_iapp _ _ rfl (base := w1.heap.size) (v := .slice A2 j c2) (os := pushL 0 j) rfl (HO.out.row.alloc _) (A := some ⟨wr.heap.size, 0, none⟩) (c := 1) (n := 1) (l := [(1, (j : Int), [])]) rfl rfl (fun e => by cases e) HIn.out (by simp) (by rw [push_len]; omega) hrs fun v5 w5 own5 g5 b5 => hK _ _ ?_); have OW := Lib.hid own5; have RW := Lib.hid ((HRw.out.alloc _).grown g5 (fun q hq => (HO.out.row.lt q hq).1)); clear own5 g5 b5)
        obtain ⟨A5, c5, hv5⟩ := OW.out.slice_of
        rw [show (pushL 0 j ++ ([(1, (j : Int), [])] : List In)).length = j + 1 by rw [List.length_append, push_len]; rfl] at hv5
        subst hv5
        go_roundw
        case rel => exact ⟨j + 1, A5, c5, by omega, by go_num, rfl, by rw [pushL, Nat.zero_add]; exact OW.out, RW.out⟩
        case measure => simp [RowKit.intOf]; omega
      · obtain rfl : j = k := by omega
        go_wp2_with (fail)
        go_meet
        exact ⟨A2, c2, rfl, HO.out, HRw.out⟩
  obtain ⟨A2, c2, rfl, hO, hR2⟩ := hcut
  have HR2 := Lib.hid hR2
  have HO2 := Lib.hid hO
  clear hO hR2
  go_upto_block 2 with (fail)
  go_cut [7] (fun v wx => ∃ (A3 : Option Addr) (c3 q : Nat), q + 1 = k ∧ v = .slice A3 (k + q) c3 ∧ InsOwn wx w1.heap.size (.slice A3 (k + q) c3) (deepC 0 k q) ∧ Rel w1 wx)
  case first =>
    go_wp2_with (fail)
    go_loopw [7, 9] (fun v i wr => ∃ (j : Nat) (A2 : Option Addr) (c2 : Nat), j + 1 ≤ k ∧ i = .int .i64 ((j : Int) + 1) ∧ v = .slice A2 (k + j) c2 ∧ InsOwn wr w1.heap.size (.slice A2 (k + j) c2) (deepC 0 k j) ∧ Rel w1 wr) (fun _ i _ => k - (RowKit.intOf i).toNat)
    case atStart => exact ⟨0, A2, c2, by omega, rfl, rfl, by rw [deep_nil]; exact HO2.out, HR2.out⟩
    case round =>
      obtain ⟨j, A3, c3, hj, rfl, rfl, hO, hRw⟩ := hrel
      have HRw := Lib.hid hRw
      have HO := Lib.hid hO
      clear hO hRw
      by_cases hlt : j + 1 < k
      · have q1 : IntKind.i64.wrap ((j : Int) + 1 + 1) = (j : Int) + 1 + 1 := IntWalk.i64_in _ (by omega)
        have q2 : (j : Int) + 1 < (k : Int) := by omega
        have hrs : w1.heap.size ≤ (wr.alloc (.cells #[.int .i64 8, .int .i64 0, .string ⟨#[]⟩] 45)).heap.size := (HRw.out.alloc _).size
        have HIn := Lib.hid (InsAt.of_bk (l := [(8, 0, [])]) (Bk.new wr 45 #[.int .i64 8, .int .i64 0, .string ⟨#[]⟩]))
        go_wp2_with (at_builtin; (refine wpList_plain rfl fun K' hK => wp_iapp _ _ rfl (base := w1.heap.size) (v := .slice A3 (k + j) c3) (os := deepC 0 k j) rfl (HO.out.row.alloc _) (A := some ⟨wr.heap.size, 0, none⟩) (c := 1) (n := 1) (l := [(8, 0, [])]) rfl rfl (fun e => by cases e) HIn.out (by simp) (by rw [deep_len]; omega) hrs fun v5 w5 own5 g5 b5 => hK _ _ ?_); have OW := Lib.hid own5; have RW := Lib.hid ((HRw.out.alloc _).grown g5 (fun q hq => (HO.out.row.lt q hq).1)); clear own5 g5 b5)
        obtain ⟨A5, c5, hv5⟩ := OW.out.slice_of
        rw [show (deepC 0 k j ++ ([(8, 0, [])] : List In)).length = k + (j + 1) by rw [deep_more, deep_len]] at hv5
        subst hv5
        go_roundw
        case rel => exact ⟨j + 1, A5, c5, by omega, by go_num, rfl, by rw [← deep_more]; exact OW.out, RW.out⟩
        case measure => simp [RowKit.intOf]; omega
      · have q2 : ¬ (j : Int) + 1 < (k : Int) := by omega
        go_wp2_with (fail)
        all_goals
          go_meet
          exact ⟨A3, c3, j, by omega, rfl, HO.out, HRw.out⟩
  obtain ⟨A3, c3, q, hq, rfl, hO, hR3⟩ := hcut
  obtain ⟨g, rfl⟩ : ∃ g, A3 = some ⟨g, 0, none⟩ := by
    rcases InsOwn.form (show InsOwn _ _ (.slice A3 (deepC 0 k q).length c3) _ by rw [deep_len]; exact hO) with ⟨_, _, h0⟩ | ⟨g, h0, _⟩
    · have := congrArg List.length h0; rw [deep_len] at this; simp at this; omega
    · exact ⟨g, h0⟩
  have hI := InsOwn.arg (show InsOwn _ _ (.slice (some ⟨g, 0, none⟩) (deepC 0 k q).length c3) _ by rw [deep_len]; exact hO) (deep_fit (by omega) (by omega))
  have hcl : k + q ≤ c3 := by have := hI.1; rwa [deep_len] at this
  have hcm : c3 ≤ 9223372036854775807 := hI.2.1
  have HR3 := Lib.hid hR3
  have HI := Lib.hid hI
  have HD := Lib.hid (deep_len 0 k q)
  clear hO hR3 hI
  by_cases hbig : 100 < k
  · obtain ⟨f1, f2⟩ := deep_full (m := q) HOk.out hbig (show 0 + k ≤ 1000 by omega) (by omega)
    have Q1 := Lib.hid (show RV (runS os (deepC 0 k q)) = .tuple #[.int .i64 0, .bool false, .int .i64 100] by rw [f1]; rfl)
    have Q2 := Lib.hid f2
    have t1 : (100 : Int) < (k : Int) := by omega
    clear f1 f2
    go_wp2_with (first
      | (go_at_call 12; (with_reducible refine (HOf.out _ _ HR3.out.self (HZ.out.rel9 (R1.out.trans HR3.out))).mono ?_); rintro e4 w4 ⟨A4, c4, rfl, o4, h4⟩; have R4 := Lib.hid h4; have O4 := Lib.hid (OffOwn.arg (by rw [HM.out]; exact o4) HFit.out); have I4 := Lib.hid (HI.out.rel h4))
      | (go_at_call 13; (with_reducible refine (run_ln H.out (deepC 0 k q) os (k + q) M 0 100 false Q1 HD HM (some ⟨g, 0, none⟩) A4 c3 c4 _ _ R4.out.self I4.out O4.out).mono ?_); rintro e5 w5 ⟨rfl, h5⟩; have R5 := Lib.hid h5; have I5 := Lib.hid (I4.out.rel h5); have O5 := Lib.hid (O4.out.rel h5))
      | (go_at_call 15; (with_reducible refine (steps_ln H.out (deepC 0 k q) os (k + q) M 101 Q2 HD HM (some ⟨g, 0, none⟩) A4 c3 c4 _ _ R5.out.self I5.out O5.out).mono ?_); rintro e6 w6 ⟨rfl, h6⟩; have R6 := Lib.hid h6))
    go_ret
    exact ⟨rfl, R1.out.trans (HR3.out.trans (R4.out.trans (R5.out.trans R6.out)))⟩
  · obtain ⟨f1, f2⟩ := deep_told (k := k) HOk.out (by omega) (by omega) (show 0 + k ≤ 1000 by omega)
    rw [show k - 1 = q by omega] at f1 f2
    have f3 := deep_few (a := 1) (k := q) HOk.out (by omega) (by omega) (by omega)
    have Q1 := Lib.hid (show RV (runS os (deepC 0 k q)) = .tuple #[.int .i64 (q : Int), .bool true, .int .i64 0] by rw [f1, show 0 + k - 1 = q by omega]; rfl)
    have Q2 := Lib.hid f2
    have HDr := Lib.hid (show (deepC 0 k q).drop 1 = deepC 1 q q by rw [show k = q + 1 by omega]; exact deep_drop 0 q q)
    have Q3 := Lib.hid (show RV (runS os (deepC 1 q q)) = .tuple #[.int .i64 0, .bool false, .int .i64 100] by rw [f3]; rfl)
    have QR := Lib.hid (deep_ok (a := 0) (k := k) (m := q) (by omega) (by omega))
    have HD1 := Lib.hid (show (deepC 1 q q).length = k + q - 1 by rw [deep_len]; omega)
    have HF1 := Lib.hid (deep_fit (a := 1) (k := q) (m := q) (by omega) (by omega))
    have t1 : ¬ (100 : Int) < (k : Int) := by omega
    have s1 : (1 : Int) ≤ ((k + q : Nat) : Int) := by omega
    have s2 : ((k + q : Nat) : Int) ≤ (c3 : Int) := by omega
    have s3 : IntKind.i64.wrap ((k : Int) - 1) = (q : Int) := by rw [IntWalk.i64_in _ (by omega)]; omega
    have s4 : IntKind.i64.wrap (2 * (k : Int)) = 2 * (k : Int) := IntWalk.i64_in _ (by omega)
    have s5 : IntKind.i64.wrap (2 * (k : Int) - 1) = ((2 * k - 1 : Nat) : Int) := by rw [IntWalk.i64_in _ (by omega)]; omega
    clear f1 f2 f3
    go_upto_region 14 with (first
      | (go_at_call 12; (with_reducible refine (HOf.out _ _ HR3.out.self (HZ.out.rel9 (R1.out.trans HR3.out))).mono ?_); rintro e4 w4 ⟨A4, c4, rfl, o4, h4⟩; have R4 := Lib.hid h4; have O4 := Lib.hid (OffOwn.arg (by rw [HM.out]; exact o4) HFit.out); have I4 := Lib.hid (HI.out.rel h4))
      | (go_at_call 13; (with_reducible refine (run_ln H.out (deepC 0 k q) os (k + q) M (q : Int) 0 true Q1 HD HM (some ⟨g, 0, none⟩) A4 c3 c4 _ _ R4.out.self I4.out O4.out).mono ?_); rintro e5 w5 ⟨rfl, h5⟩; have R5 := Lib.hid h5; have I5 := Lib.hid (I4.out.rel h5); have O5 := Lib.hid (O4.out.rel h5)))
    have J5 : Hid (InsArg w5 (some ⟨g, 3, none⟩) (c3 - 1) (deepC 1 q q)) := Lib.hid ⟨by rw [deep_len]; omega, by have := I5.out.2.1; omega, HF1.out, by have := I5.out.2.2.2.from 1; rw [HDr.out] at this; exact this⟩
    go_wp2_with (first
      | (go_at_call 13; (with_reducible refine (run_ln H.out (deepC 1 q q) os (k + q - 1) M 0 100 false Q3 HD1 HM (some ⟨g, 3, none⟩) A4 (c3 - 1) c4 _ _ R5.out.self J5.out O5.out).mono ?_); rintro e6 w6 ⟨rfl, h6⟩; have R6 := Lib.hid h6; have I6 := Lib.hid (I5.out.rel h6); have O6 := Lib.hid (O5.out.rel h6))
      | (go_at_call 15; (with_reducible refine (steps_ln H.out (deepC 0 k q) os (k + q) M (2 * k - 1) Q2 HD HM (some ⟨g, 0, none⟩) A4 c3 c4 _ _ R6.out.self I6.out O6.out).mono ?_); rintro e7 w7 ⟨rfl, h7⟩; have R7 := Lib.hid h7; have I7 := Lib.hid (I6.out.rel h7))
      | (go_at_call 22; (with_reducible refine (rcright_ln (deepC 0 k q) (k + q) QR HD (some ⟨g, 0, none⟩) c3 _ _ R7.out.self I7.out).mono ?_); rintro e8 w8 ⟨rfl, h8⟩; have R8 := Lib.hid h8))
    go_ret
    exact ⟨rfl, R1.out.trans (HR3.out.trans (R4.out.trans (R5.out.trans (R6.out.trans (R7.out.trans R8.out)))))⟩
end Go.Proofs.YtcckemhelockaaaGreatDoor
