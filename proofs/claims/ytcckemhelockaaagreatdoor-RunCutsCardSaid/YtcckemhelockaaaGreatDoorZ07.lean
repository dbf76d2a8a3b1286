/- The landed operations of layer 11 that take two: min, max, above; The landed operations of layer 11 that lead: else, unless, jump; The map of operations; what is looked up in it does what its number says; What is scanned: the document's own Lex; Plain mathematics of layer 6, third part: what is told one token behind the other, up to an error. No program in this text. -/
import Derived.Test.YtcckemhelockaaaGreatDoorZL
import Derived.Test.YtcckemhelockaaaGreatDoorZ00
import Derived.Test.YtcckemhelockaaaGreatDoorZ01
import Derived.Test.YtcckemhelockaaaGreatDoorZ02
import Derived.Test.YtcckemhelockaaaGreatDoorZ03
import Derived.Test.YtcckemhelockaaaGreatDoorZ04
import Derived.Test.YtcckemhelockaaaGreatDoorZ05
import Derived.Test.YtcckemhelockaaaGreatDoorZ06
namespace Go.Proofs.YtcckemhelockaaaGreatDoor
open Go.RowKit Go.Lib
set_option linter.unusedVariables false
set_option linter.unusedSimpArgs false
theorem two_nil (op : Int) : twoM op ([], 0) = ([], 100) := by unfold twoM; rw [take_none]; exact put_err (s := (takeM (([] : List Ce), (100 : Int))).2) (by decide) _
theorem two_one (op : Int) (t : Ce) : twoM op ([] ++ [t], 0) = ([], 100) := by unfold twoM; rw [take_last]; exact put_err (s := (takeM (([] : List Ce), (0 : Int))).2) (by decide) _
theorem two_two (op : Int) (R : List Ce) (x y : Ce) : twoM op ((R ++ [x]) ++ [y], 0) = putM (R, 0) (twoC op x y) := by unfold twoM; rw [take_last]; simp only; rw [take_last]
set_option maxRecDepth 100000 in
set_option maxHeartbeats 4000000 in
theorem lchoose_any (fn : FuncId) (hfn : ∀ (args : Array Value) (w : World), (callFunc fn args).run Tryz.prog w = .ok (.enter fn args) w) (f : Int → Int → Int) (HF : ∀ (x y : Int) (w : World), Calls Tryz.prog fn #[.int .i64 x, .int .i64 y] w fun r w' => r = .returned (.int .i64 (f x y)) ∧ w = w') (op : Int)
    (ho : ∀ x y : Int, twoC op (some x) (some y) = some (f x y)) (ho' : ∀ x y : Ce, x = none ∨ y = none → twoC op x y = none) (b D : Nat) (ov : Value) (nx st : Int) (S T : List Ce) (er : Int) (hm : Hid (twoM op (S, 0) = (T, er))) (w0 w : World) (hr : Rel w0 w) (h : Mh w w0.heap.size D b ov nx st S) :
    Calls Tryz.prog 114 #[.pointer (some ⟨b, 0, none⟩), .func (.func fn) #[] #[]] w (LP w0 b ov nx st w T er) := by
  have HR := Lib.hid hr
  clear hr
  rcases stack_ways S with rfl | ⟨S1, y, rfl⟩
  · have HM := Lib.hid h
    have hm := hm.out
    rw [two_nil] at hm
    injection hm with e1 e2
    subst e1 e2
    clear h
    go_enter Tryz.func114, Tryz.ntmps114
    go_wp2_with (go_at_call 120; (with_reducible refine (ltwo_none b D ov nx st w0 w HR.out HM.out).mono ?_); rintro e w1 ⟨rfl, h1⟩; have R1 := Lib.hid h1)
    go_ret
    exact LP.same HR.out HM.out ((R1.out.alloc _).alloc _) rfl (by decide)
  rcases stack_ways S1 with rfl | ⟨R, x, rfl⟩
  · have HM := Lib.hid h
    have hm := hm.out
    rw [two_one] at hm
    injection hm with e1 e2
    subst e1 e2
    obtain ⟨p, q, hpq⟩ := ce_val y
    have HV := Lib.hid hpq
    clear h hpq
    go_enter Tryz.func114, Tryz.ntmps114
    go_wp2_with (go_at_call 120; (with_reducible refine (ltwo_one b D ov nx st y p q HV w0 w HR.out HM.out).mono ?_); rintro e w1 ⟨rfl, m1, r1, k1⟩; have R1 := Lib.hid r1; have M1 := Lib.hid m1; have K1 := Lib.hid k1; clear r1 m1 k1)
    go_ret
    exact ⟨rfl, (R1.out.alloc _).alloc _, Kr.trans (Kt.kr K1.out) (Kr.rel ((R1.out.self.alloc _).alloc _)), D, _, M1.out.rel ((R1.out.self.alloc _).alloc _), fun h0 => absurd h0 (by decide)⟩
  have HM := Lib.hid h
  have hm := hm.out
  rw [two_two] at hm
  clear h
  rcases x with _ | x <;> rcases y with _ | y
  · have HP := Lib.hid (show putM (R, 0) none = (T, er) by rw [← hm, ho' _ _ (by simp)])
    clear hm ho ho' HF
    go_enter Tryz.func114, Tryz.ntmps114
    go_wp2_with (first
      | (go_at_call 120; (with_reducible refine (ltwo_two b D ov nx st R none 0 false (Lib.hid rfl) none 0 false (Lib.hid rfl) w0 w HR.out HM.out).mono ?_); rintro e w1 ⟨rfl, m1, r1, k1⟩; have R1 := Lib.hid r1; have M1 := Lib.hid m1; have K1 := Lib.hid k1; clear r1 m1 k1)
      | (go_at_call 118; (with_reducible refine (lput_as b D ov nx st R T er none 0 false (Lib.hid rfl) HP w0 _ ((R1.out.alloc _).alloc _) (M1.out.rel ((R1.out.self.alloc _).alloc _))).mono ?_); rintro e w3 ⟨rfl, h3⟩))
    go_ret
    exact LP.back (Kr.trans (Kt.kr K1.out) (Kr.rel ((R1.out.self.alloc _).alloc _))) h3 rfl
  · have HP := Lib.hid (show putM (R, 0) none = (T, er) by rw [← hm, ho' _ _ (by simp)])
    clear hm ho ho' HF
    go_enter Tryz.func114, Tryz.ntmps114
    go_wp2_with (first
      | (go_at_call 120; (with_reducible refine (ltwo_two b D ov nx st R none 0 false (Lib.hid rfl) (some y) y true (Lib.hid rfl) w0 w HR.out HM.out).mono ?_); rintro e w1 ⟨rfl, m1, r1, k1⟩; have R1 := Lib.hid r1; have M1 := Lib.hid m1; have K1 := Lib.hid k1; clear r1 m1 k1)
      | (go_at_call 118; (with_reducible refine (lput_as b D ov nx st R T er none 0 false (Lib.hid rfl) HP w0 _ ((R1.out.alloc _).alloc _) (M1.out.rel ((R1.out.self.alloc _).alloc _))).mono ?_); rintro e w3 ⟨rfl, h3⟩))
    go_ret
    exact LP.back (Kr.trans (Kt.kr K1.out) (Kr.rel ((R1.out.self.alloc _).alloc _))) h3 rfl
  · have HP := Lib.hid (show putM (R, 0) none = (T, er) by rw [← hm, ho' _ _ (by simp)])
    clear hm ho ho' HF
    go_enter Tryz.func114, Tryz.ntmps114
    go_wp2_with (first
      | (go_at_call 120; (with_reducible refine (ltwo_two b D ov nx st R (some x) x true (Lib.hid rfl) none 0 false (Lib.hid rfl) w0 w HR.out HM.out).mono ?_); rintro e w1 ⟨rfl, m1, r1, k1⟩; have R1 := Lib.hid r1; have M1 := Lib.hid m1; have K1 := Lib.hid k1; clear r1 m1 k1)
      | (go_at_call 118; (with_reducible refine (lput_as b D ov nx st R T er none 0 false (Lib.hid rfl) HP w0 _ ((R1.out.alloc _).alloc _) (M1.out.rel ((R1.out.self.alloc _).alloc _))).mono ?_); rintro e w3 ⟨rfl, h3⟩))
    go_ret
    exact LP.back (Kr.trans (Kt.kr K1.out) (Kr.rel ((R1.out.self.alloc _).alloc _))) h3 rfl
  · have hv := ho x y
    have HFv := Lib.hid (HF x y)
    generalize f x y = v at *
    have HP := Lib.hid (show putM (R, 0) (some v) = (T, er) by rw [← hm, hv])
    clear hm ho ho' HF hv
    go_enter Tryz.func114, Tryz.ntmps114
    go_wp2_with (first
      | (go_at_call 120; (with_reducible refine (ltwo_two b D ov nx st R (some x) x true (Lib.hid rfl) (some y) y true (Lib.hid rfl) w0 w HR.out HM.out).mono ?_); rintro e w1 ⟨rfl, m1, r1, k1⟩; have R1 := Lib.hid r1; have M1 := Lib.hid m1; have K1 := Lib.hid k1; clear r1 m1 k1)
      | (go_at_call 134; (with_reducible refine (lamount_any v _ _ ((R1.out.alloc _).alloc _)).mono ?_); rintro e w2 ⟨rfl, h2⟩; have R2 := Lib.hid (((R1.out.self.alloc _).alloc _).trans h2))
      | (go_at_call 118; (with_reducible refine (lput_as b D ov nx st R T er (some v) v true (Lib.hid rfl) HP w0 _ (R1.out.trans R2.out) (M1.out.rel R2.out)).mono ?_); rintro e w3 ⟨rfl, h3⟩)
      | ((with_reducible refine (HFv.out _).mono ?_); rintro e w4 ⟨rfl, rfl⟩))
    go_ret
    exact LP.back (Kr.trans (Kt.kr K1.out) (Kr.rel R2.out)) h3 rfl
set_option maxRecDepth 100000 in
set_option maxHeartbeats 4000000 in
theorem lmin1_any (x y : Int) (w : World) :
    Calls Tryz.prog 115 #[.int .i64 x, .int .i64 y] w fun r w' => r = .returned (.int .i64 (min x y)) ∧ w = w' := by
  go_enter Tryz.func115, Tryz.ntmps115
  go_wp2_with (fail)
  all_goals
    go_ret
    exact ⟨ret_int (by omega), rfl⟩
set_option maxRecDepth 100000 in
set_option maxHeartbeats 4000000 in
theorem llesser_any (b D : Nat) (ov : Value) (nx st : Int) (S T : List Ce) (er : Int) (o n : Int) (s : ByteArray) (hm : Hid (twoM 7 (S, 0) = (T, er))) (w0 w : World) (hr : Rel w0 w) (h : Mh w w0.heap.size D b ov nx st S) :
    Calls Tryz.prog 79 #[.pointer (some ⟨b, 0, none⟩), .agg #[.int .i64 o, .int .i64 n, .string s]] w (LP w0 b ov nx st w T er) := by
  have HA := Lib.hid (hr.self.alloc (.cells #[.int .i64 o, .int .i64 n, .string s] 45))
  have HC := Lib.hid (lchoose_any 115 (fun _ _ => rfl) min lmin1_any 7 (fun _ _ => rfl) (fun x y h => by rcases h with rfl | rfl <;> (try cases x) <;> (try cases y) <;> rfl) b D ov nx st S T er hm w0 _ (hr.trans HA.out) (h.rel HA.out))
  obtain ⟨W, hW⟩ : ∃ W, w.alloc (.cells #[.int .i64 o, .int .i64 n, .string s] 45) = W := ⟨_, rfl⟩
  rw [hW] at HA HC
  clear hr h
  go_enter Tryz.func79, Tryz.ntmps79
  go_wp2_with (go_at_call 114; (with_reducible refine HC.out.mono ?_); rintro e w1 ⟨rfl, h1⟩)
  go_ret
  exact LP.back (Kr.rel HA.out) h1 rfl
set_option maxRecDepth 100000 in
set_option maxHeartbeats 4000000 in
theorem lmax1_any (x y : Int) (w : World) :
    Calls Tryz.prog 116 #[.int .i64 x, .int .i64 y] w fun r w' => r = .returned (.int .i64 (max x y)) ∧ w = w' := by
  go_enter Tryz.func116, Tryz.ntmps116
  go_wp2_with (fail)
  all_goals
    go_ret
    exact ⟨ret_int (by omega), rfl⟩
set_option maxRecDepth 100000 in
set_option maxHeartbeats 4000000 in
theorem lgreater_any (b D : Nat) (ov : Value) (nx st : Int) (S T : List Ce) (er : Int) (o n : Int) (s : ByteArray) (hm : Hid (twoM 8 (S, 0) = (T, er))) (w0 w : World) (hr : Rel w0 w) (h : Mh w w0.heap.size D b ov nx st S) :
    Calls Tryz.prog 80 #[.pointer (some ⟨b, 0, none⟩), .agg #[.int .i64 o, .int .i64 n, .string s]] w (LP w0 b ov nx st w T er) := by
  have HA := Lib.hid (hr.self.alloc (.cells #[.int .i64 o, .int .i64 n, .string s] 45))
  have HC := Lib.hid (lchoose_any 116 (fun _ _ => rfl) max lmax1_any 8 (fun _ _ => rfl) (fun x y h => by rcases h with rfl | rfl <;> (try cases x) <;> (try cases y) <;> rfl) b D ov nx st S T er hm w0 _ (hr.trans HA.out) (h.rel HA.out))
  obtain ⟨W, hW⟩ : ∃ W, w.alloc (.cells #[.int .i64 o, .int .i64 n, .string s] 45) = W := ⟨_, rfl⟩
  rw [hW] at HA HC
  clear hr h
  go_enter Tryz.func80, Tryz.ntmps80
  go_wp2_with (go_at_call 114; (with_reducible refine HC.out.mono ?_); rintro e w1 ⟨rfl, h1⟩)
  go_ret
  exact LP.back (Kr.rel HA.out) h1 rfl
theorem LP.first {w0 w W w' : World} {b : Nat} {ov : Value} {nx st er : Int} {T : List Ce} {e : Ending} (hr : Rel w W) (h : LP w0 b ov nx st W T er e w') : LP w0 b ov nx st w T er e w' := ⟨h.1, h.2.1, Kr.trans (Kr.rel hr) h.2.2.1, h.2.2.2⟩
set_option maxRecDepth 100000 in
set_option maxHeartbeats 4000000 in
theorem labove_any (b D : Nat) (ov : Value) (nx st : Int) (S T : List Ce) (er : Int) (o n : Int) (s : ByteArray) (hm : Hid (twoM 11 (S, 0) = (T, er))) (w0 w : World) (hr : Rel w0 w) (h : Mh w w0.heap.size D b ov nx st S) :
    Calls Tryz.prog 83 #[.pointer (some ⟨b, 0, none⟩), .agg #[.int .i64 o, .int .i64 n, .string s]] w (LP w0 b ov nx st w T er) := by
  have HI := Lib.hid (hr.self.alloc (.cells #[.int .i64 o, .int .i64 n, .string s] 45))
  have hr := hr.trans HI.out
  have h := h.rel HI.out
  obtain ⟨W, hW⟩ : ∃ W, w.alloc (.cells #[.int .i64 o, .int .i64 n, .string s] 45) = W := ⟨_, rfl⟩
  rw [hW] at HI hr h
  have HR := Lib.hid hr
  clear hr
  rcases stack_ways S with rfl | ⟨S1, y, rfl⟩
  · have HM := Lib.hid h
    have hm := hm.out
    rw [two_nil] at hm
    injection hm with e1 e2
    subst e1 e2
    clear h
    go_enter Tryz.func83, Tryz.ntmps83
    go_wp2_with (go_at_call 120; (with_reducible refine (ltwo_none b D ov nx st w0 W HR.out HM.out).mono ?_); rintro e w1 ⟨rfl, h1⟩; have R1 := Lib.hid h1)
    go_ret
    exact LP.first HI.out (LP.same HR.out HM.out ((R1.out.alloc _).alloc _) rfl (by decide))
  rcases stack_ways S1 with rfl | ⟨R, x, rfl⟩
  · have HM := Lib.hid h
    have hm := hm.out
    rw [two_one] at hm
    injection hm with e1 e2
    subst e1 e2
    obtain ⟨p, q, hpq⟩ := ce_val y
    have HV := Lib.hid hpq
    clear h hpq
    go_enter Tryz.func83, Tryz.ntmps83
    go_wp2_with (go_at_call 120; (with_reducible refine (ltwo_one b D ov nx st y p q HV w0 W HR.out HM.out).mono ?_); rintro e w1 ⟨rfl, m1, r1, k1⟩; have R1 := Lib.hid r1; have M1 := Lib.hid m1; have K1 := Lib.hid k1; clear r1 m1 k1)
    go_ret
    exact LP.first HI.out (⟨rfl, (R1.out.alloc _).alloc _, Kr.trans (Kt.kr K1.out) (Kr.rel ((R1.out.self.alloc _).alloc _)), D, _, M1.out.rel ((R1.out.self.alloc _).alloc _), fun h0 => absurd h0 (by decide)⟩)
  have HM := Lib.hid h
  have hm := hm.out
  rw [two_two] at hm
  clear h
  rcases x with _ | x <;> rcases y with _ | y
  · have HP := Lib.hid (show putM (R, 0) (some 0) = (T, er) by rw [← hm]; first | rfl | (unfold twoC; simp [hxy]))
    clear hm
    go_enter Tryz.func83, Tryz.ntmps83
    go_wp2_with (first
      | (go_at_call 120; (with_reducible refine (ltwo_two b D ov nx st R none 0 false (Lib.hid rfl) none 0 false (Lib.hid rfl) w0 W HR.out HM.out).mono ?_); rintro e w1 ⟨rfl, m1, r1, k1⟩; have R1 := Lib.hid r1; have M1 := Lib.hid m1; have K1 := Lib.hid k1; clear r1 m1 k1)
      | (go_at_call 119; (with_reducible refine (lso_any false 0 (Lib.hid rfl) w0 _ ((R1.out.alloc _).alloc _)).mono ?_); rintro e w2 ⟨rfl, h2⟩; have R2 := Lib.hid (((R1.out.self.alloc _).alloc _).trans h2))
      | (go_at_call 118; (with_reducible refine (lput_as b D ov nx st R T er (some 0) 0 true (Lib.hid rfl) HP w0 _ (R1.out.trans R2.out) (M1.out.rel R2.out)).mono ?_); rintro e w3 ⟨rfl, h3⟩))
    go_ret
    exact LP.first HI.out (LP.back (Kr.trans (Kt.kr K1.out) (Kr.rel R2.out)) h3 rfl)
  · have HP := Lib.hid (show putM (R, 0) (some 0) = (T, er) by rw [← hm]; first | rfl | (unfold twoC; simp [hxy]))
    clear hm
    go_enter Tryz.func83, Tryz.ntmps83
    go_wp2_with (first
      | (go_at_call 120; (with_reducible refine (ltwo_two b D ov nx st R none 0 false (Lib.hid rfl) (some y) y true (Lib.hid rfl) w0 W HR.out HM.out).mono ?_); rintro e w1 ⟨rfl, m1, r1, k1⟩; have R1 := Lib.hid r1; have M1 := Lib.hid m1; have K1 := Lib.hid k1; clear r1 m1 k1)
      | (go_at_call 119; (with_reducible refine (lso_any false 0 (Lib.hid rfl) w0 _ ((R1.out.alloc _).alloc _)).mono ?_); rintro e w2 ⟨rfl, h2⟩; have R2 := Lib.hid (((R1.out.self.alloc _).alloc _).trans h2))
      | (go_at_call 118; (with_reducible refine (lput_as b D ov nx st R T er (some 0) 0 true (Lib.hid rfl) HP w0 _ (R1.out.trans R2.out) (M1.out.rel R2.out)).mono ?_); rintro e w3 ⟨rfl, h3⟩))
    go_ret
    exact LP.first HI.out (LP.back (Kr.trans (Kt.kr K1.out) (Kr.rel R2.out)) h3 rfl)
  · have HP := Lib.hid (show putM (R, 0) (some 0) = (T, er) by rw [← hm]; first | rfl | (unfold twoC; simp [hxy]))
    clear hm
    go_enter Tryz.func83, Tryz.ntmps83
    go_wp2_with (first
      | (go_at_call 120; (with_reducible refine (ltwo_two b D ov nx st R (some x) x true (Lib.hid rfl) none 0 false (Lib.hid rfl) w0 W HR.out HM.out).mono ?_); rintro e w1 ⟨rfl, m1, r1, k1⟩; have R1 := Lib.hid r1; have M1 := Lib.hid m1; have K1 := Lib.hid k1; clear r1 m1 k1)
      | (go_at_call 119; (with_reducible refine (lso_any false 0 (Lib.hid rfl) w0 _ ((R1.out.alloc _).alloc _)).mono ?_); rintro e w2 ⟨rfl, h2⟩; have R2 := Lib.hid (((R1.out.self.alloc _).alloc _).trans h2))
      | (go_at_call 118; (with_reducible refine (lput_as b D ov nx st R T er (some 0) 0 true (Lib.hid rfl) HP w0 _ (R1.out.trans R2.out) (M1.out.rel R2.out)).mono ?_); rintro e w3 ⟨rfl, h3⟩))
    go_ret
    exact LP.first HI.out (LP.back (Kr.trans (Kt.kr K1.out) (Kr.rel R2.out)) h3 rfl)
  · by_cases hxy : y < x
    · have t1 : decide (y < x) = true := decide_eq_true hxy
      have HP := Lib.hid (show putM (R, 0) (some 1) = (T, er) by rw [← hm]; first | rfl | (unfold twoC; simp [hxy]))
      clear hm hxy
      go_enter Tryz.func83, Tryz.ntmps83
      go_wp2_with (first
        | (go_at_call 120; (with_reducible refine (ltwo_two b D ov nx st R (some x) x true (Lib.hid rfl) (some y) y true (Lib.hid rfl) w0 W HR.out HM.out).mono ?_); rintro e w1 ⟨rfl, m1, r1, k1⟩; have R1 := Lib.hid r1; have M1 := Lib.hid m1; have K1 := Lib.hid k1; clear r1 m1 k1)
        | (go_at_call 119; (with_reducible refine (lso_any true 1 (Lib.hid rfl) w0 _ ((R1.out.alloc _).alloc _)).mono ?_); rintro e w2 ⟨rfl, h2⟩; have R2 := Lib.hid (((R1.out.self.alloc _).alloc _).trans h2))
        | (go_at_call 118; (with_reducible refine (lput_as b D ov nx st R T er (some 1) 1 true (Lib.hid rfl) HP w0 _ (R1.out.trans R2.out) (M1.out.rel R2.out)).mono ?_); rintro e w3 ⟨rfl, h3⟩))
      go_ret
      exact LP.first HI.out (LP.back (Kr.trans (Kt.kr K1.out) (Kr.rel R2.out)) h3 rfl)
    · have t1 : decide (y < x) = false := decide_eq_false hxy
      have HP := Lib.hid (show putM (R, 0) (some 0) = (T, er) by rw [← hm]; first | rfl | (unfold twoC; simp [hxy]))
      clear hm hxy
      go_enter Tryz.func83, Tryz.ntmps83
      go_wp2_with (first
        | (go_at_call 120; (with_reducible refine (ltwo_two b D ov nx st R (some x) x true (Lib.hid rfl) (some y) y true (Lib.hid rfl) w0 W HR.out HM.out).mono ?_); rintro e w1 ⟨rfl, m1, r1, k1⟩; have R1 := Lib.hid r1; have M1 := Lib.hid m1; have K1 := Lib.hid k1; clear r1 m1 k1)
        | (go_at_call 119; (with_reducible refine (lso_any false 0 (Lib.hid rfl) w0 _ ((R1.out.alloc _).alloc _)).mono ?_); rintro e w2 ⟨rfl, h2⟩; have R2 := Lib.hid (((R1.out.self.alloc _).alloc _).trans h2))
        | (go_at_call 118; (with_reducible refine (lput_as b D ov nx st R T er (some 0) 0 true (Lib.hid rfl) HP w0 _ (R1.out.trans R2.out) (M1.out.rel R2.out)).mono ?_); rintro e w3 ⟨rfl, h3⟩))
      go_ret
      exact LP.first HI.out (LP.back (Kr.trans (Kt.kr K1.out) (Kr.rel R2.out)) h3 rfl)
end Go.Proofs.YtcckemhelockaaaGreatDoor

namespace Go.Proofs.YtcckemhelockaaaGreatDoor
open Go.RowKit Go.Lib
set_option linter.unusedVariables false
set_option linter.unusedSimpArgs false
/-- Behind an operation: the error told; the next place and the stack, if there is none. -/
def OX (w0 : World) (b : Nat) (ov : Value) (st : Int) (w : World) (m : Nat × Ms) (e : Ending) (w' : World) : Prop :=
  e = .returned (.int .i64 m.2.2) ∧ Rel w0 w' ∧ Kl b w w' ∧ ∃ D S nx, Mh w' w0.heap.size D b ov nx st S ∧ (m.2.2 = 0 → nx = (m.1 : Int) ∧ S = m.2.1)
theorem LP.ox {w0 w w' : World} {b i : Nat} {ov : Value} {st er : Int} {T : List Ce} {m : Nat × Ms} {e : Ending} (h : LP w0 b ov ((i + 1 : Nat) : Int) st w T er e w') (hm : m = (i + 1, (T, er))) : OX w0 b ov st w m e w' := by
  subst hm
  obtain ⟨h1, h2, h3, D, S, h4, h5⟩ := h
  exact ⟨h1, h2, h3, D, S, _, h4, fun h0 => ⟨rfl, h5 h0⟩⟩
theorem lstep_else (os : List Of) (n : Int) (nm : List UInt8) (i : Nat) (s : Ms) : stepM os (9, n, nm) i s = match (takeM s).1 with | some v => (n.toNat, putM (takeM s).2 (some v)) | none => (i + 1, (takeM s).2) := rfl
theorem lstep_unless (os : List Of) (n : Int) (nm : List UInt8) (i : Nat) (s : Ms) : stepM os (12, n, nm) i s = match (takeM s).1 with | some v => if v = 0 then (n.toNat, (takeM s).2) else (i + 1, (takeM s).2) | none => (n.toNat, (takeM s).2) := rfl
theorem lstep_jump (os : List Of) (n : Int) (nm : List UInt8) (i : Nat) (s : Ms) : stepM os (13, n, nm) i s = (n.toNat, s) := rfl
/-- Behind the box of the instruction, and one taken, and its box. -/
structure Tk (w0 w W w1 V : World) (D b : Nat) (ov : Value) (nx st : Int) (S : List Ce) (p : Int) (q : Bool) (o n : Int) (s : ByteArray) : Prop where
  r : Rel w0 V
  m : Mh V w0.heap.size D b ov nx st S
  k : Kl b w V
  x : Bk V w.heap.size 45 #[.int .i64 o, .int .i64 n, .string s]
  y : Bk V w1.heap.size 64 #[.int .i64 p, .bool q]
  ne : w1.heap.size ≠ b
theorem Tk.of {w0 w W w1 : World} {D b : Nat} {ov : Value} {nx st : Int} {S : List Ce} {p : Int} {q : Bool} {o n : Int} {s : ByteArray} (hlt : b < w.heap.size) (hWw : Rel w W) (hx : Bk W w.heap.size 45 #[.int .i64 o, .int .i64 n, .string s]) (m1 : Mh w1 w0.heap.size D b ov nx st S) (r1 : Rel w0 w1) (k1 : Kt b W w1) (V : World) (hV : w1.alloc (.cells #[.int .i64 p, .bool q] 64) = V) :
    Tk w0 w W w1 V D b ov nx st S p q o n s := by
  subst hV
  have hb := m1.lt
  exact ⟨r1.alloc _, m1.rel (r1.self.alloc _), Kr.trans (Kr.rel hWw) (Kr.trans (Kt.kr k1) (Kr.rel (r1.self.alloc _))), (k1.bk hx (by omega)).alloc _, Bk.new _ _ _, by omega⟩
set_option maxRecDepth 100000 in
set_option maxHeartbeats 4000000 in
theorem ljump_any (b D : Nat) (ov : Value) (st : Int) (S : List Ce) (m : Nat × Ms) (os : List Of) (i : Nat) (o n : Int) (nm : List UInt8) (s : ByteArray) (hn : 0 ≤ n) (hm : stepM os (13, n, nm) i (S, 0) = m) (w0 w : World) (hr : Rel w0 w) (h : Mh w w0.heap.size D b ov ((i + 1 : Nat) : Int) st S) :
    Calls Tryz.prog 85 #[.pointer (some ⟨b, 0, none⟩), .agg #[.int .i64 o, .int .i64 n, .string s]] w (OX w0 b ov st w m) := by
  rw [lstep_jump] at hm
  subst hm
  have hlt := h.lt
  have HI := Lib.hid (hr.self.alloc (.cells #[.int .i64 o, .int .i64 n, .string s] 45))
  have HX := Lib.hid (Bk.new w 45 #[.int .i64 o, .int .i64 n, .string s])
  have HM := Lib.hid (h.rel HI.out)
  have HR := Lib.hid (hr.trans HI.out)
  obtain ⟨W, hW⟩ : ∃ W, w.alloc (.cells #[.int .i64 o, .int .i64 n, .string s] 45) = W := ⟨_, rfl⟩
  rw [hW] at HI HX HM HR
  clear hr h
  obtain ⟨⟨x0, x1, x2⟩, _⟩ := three_of HX.out
  obtain ⟨A, c, hb⟩ := HM.out.cells
  obtain ⟨⟨b0, b1, b2, b3⟩, f0, f1, f2, f3⟩ := hb.four
  clear hb
  go_enter Tryz.func85, Tryz.ntmps85
  go_wp2_with (fail)
  go_ret
  exact ⟨rfl, HR.out.setCell (p := ⟨b, 1, none⟩) HM.out.1 _, Kr.trans (Kr.rel HI.out) ((Kr.refl _ b W).set (p := ⟨b, 1, none⟩) rfl _), D, _, _, HM.out.next n, fun _ => ⟨(Int.toNat_of_nonneg hn).symm, rfl⟩⟩
set_option maxRecDepth 100000 in
set_option maxHeartbeats 4000000 in
theorem lunless_any (b D : Nat) (ov : Value) (st : Int) (S : List Ce) (m : Nat × Ms) (os : List Of) (i : Nat) (o n : Int) (nm : List UInt8) (s : ByteArray) (hn : 0 ≤ n) (hm : stepM os (12, n, nm) i (S, 0) = m) (w0 w : World) (hr : Rel w0 w) (h : Mh w w0.heap.size D b ov ((i + 1 : Nat) : Int) st S) :
    Calls Tryz.prog 84 #[.pointer (some ⟨b, 0, none⟩), .agg #[.int .i64 o, .int .i64 n, .string s]] w (OX w0 b ov st w m) := by
  rcases stack_ways S with rfl | ⟨R, t, rfl⟩
  · skip
    have hlt := h.lt
    have HI := Lib.hid (hr.self.alloc (.cells #[.int .i64 o, .int .i64 n, .string s] 45))
    have HX := Lib.hid (Bk.new w 45 #[.int .i64 o, .int .i64 n, .string s])
    have HM := Lib.hid (h.rel HI.out)
    have HR := Lib.hid (hr.trans HI.out)
    obtain ⟨W, hW⟩ : ∃ W, w.alloc (.cells #[.int .i64 o, .int .i64 n, .string s] 45) = W := ⟨_, rfl⟩
    rw [hW] at HI HX HM HR
    clear hr h
    rw [lstep_unless, take_none] at hm
    subst hm
    go_enter Tryz.func84, Tryz.ntmps84
    go_wp2_with (go_at_call 117; (with_reducible refine (ltake_nil b D ov _ st w0 W HR.out HM.out).mono ?_); rintro e w1 ⟨rfl, h1⟩; have R1 := Lib.hid h1; have M1 := Lib.hid (HM.out.rel h1); clear h1)
    go_ret
    exact ⟨rfl, (HR.out.trans R1.out).alloc _, Kr.trans (Kr.rel HI.out) (Kr.rel (R1.out.alloc _)), D, _, _, M1.out.rel (R1.out.self.alloc _), fun h0 => absurd (show (100 : Int) = 0 from h0) (by decide)⟩
  · rw [lstep_unless, take_last] at hm
    simp only at hm
    have hlt := h.lt
    have HI := Lib.hid (hr.self.alloc (.cells #[.int .i64 o, .int .i64 n, .string s] 45))
    have HX := Lib.hid (Bk.new w 45 #[.int .i64 o, .int .i64 n, .string s])
    have HM := Lib.hid (h.rel HI.out)
    have HR := Lib.hid (hr.trans HI.out)
    obtain ⟨W, hW⟩ : ∃ W, w.alloc (.cells #[.int .i64 o, .int .i64 n, .string s] 45) = W := ⟨_, rfl⟩
    rw [hW] at HI HX HM HR
    clear hr h
    rcases t with _ | v
    · simp only at hm
      subst hm
      go_enter Tryz.func84, Tryz.ntmps84
      go_upto_region 2 with (go_at_call 117; (with_reducible refine (ltake_as b D ov _ st R none 0 false (Lib.hid rfl) w0 W HR.out HM.out).mono ?_); rintro e w1 ⟨rfl, m1, r1, k1⟩; have TK := Lib.hid (Tk.of (p := 0) (q := false) hlt HI.out HX.out m1 r1 k1 _ rfl); clear m1 r1 k1)
      obtain ⟨V, hV⟩ : ∃ V, w1.alloc (.cells #[.int .i64 0, .bool false] 64) = V := ⟨_, rfl⟩
      rw [hV] at TK
      try rw [hV]
      clear hV
      have hxV := TK.out.x
      obtain ⟨⟨x0, x1, x2⟩, _⟩ := three_of hxV
      obtain ⟨⟨y0, y1⟩, _⟩ := TK.out.y.two
      obtain ⟨A, c, hb⟩ := TK.out.m.cells
      obtain ⟨⟨b0, b1, b2, b3⟩, f0, f1, f2, f3⟩ := hb.four
      clear hb hxV
      go_wp2_with (fail)
      go_ret
      exact ⟨rfl, TK.out.r.setCell (p := ⟨b, 1, none⟩) TK.out.m.1 _, Kr.set TK.out.k (p := ⟨b, 1, none⟩) rfl _, D, _, _, TK.out.m.next n, fun _ => ⟨(Int.toNat_of_nonneg hn).symm, rfl⟩⟩
    · simp only at hm
      by_cases hv : v = 0
      · rw [if_pos hv] at hm
        subst hm hv
        go_enter Tryz.func84, Tryz.ntmps84
        go_upto_region 2 with (go_at_call 117; (with_reducible refine (ltake_as b D ov _ st R (some 0) 0 true (Lib.hid rfl) w0 W HR.out HM.out).mono ?_); rintro e w1 ⟨rfl, m1, r1, k1⟩; have TK := Lib.hid (Tk.of (p := 0) (q := true) hlt HI.out HX.out m1 r1 k1 _ rfl); clear m1 r1 k1)
        obtain ⟨V, hV⟩ : ∃ V, w1.alloc (.cells #[.int .i64 0, .bool true] 64) = V := ⟨_, rfl⟩
        rw [hV] at TK
        try rw [hV]
        clear hV
        have hxV := TK.out.x
        obtain ⟨⟨x0, x1, x2⟩, _⟩ := three_of hxV
        obtain ⟨⟨y0, y1⟩, _⟩ := TK.out.y.two
        obtain ⟨A, c, hb⟩ := TK.out.m.cells
        obtain ⟨⟨b0, b1, b2, b3⟩, f0, f1, f2, f3⟩ := hb.four
        clear hb hxV
        go_wp2_with (fail)
        go_ret
        exact ⟨rfl, TK.out.r.setCell (p := ⟨b, 1, none⟩) TK.out.m.1 _, Kr.set TK.out.k (p := ⟨b, 1, none⟩) rfl _, D, _, _, TK.out.m.next n, fun _ => ⟨(Int.toNat_of_nonneg hn).symm, rfl⟩⟩
      · rw [if_neg hv] at hm
        subst hm
        have hvb : (v == 0) = false := by simpa using hv
        go_enter Tryz.func84, Tryz.ntmps84
        go_upto_region 2 with (go_at_call 117; (with_reducible refine (ltake_as b D ov _ st R (some v) v true (Lib.hid rfl) w0 W HR.out HM.out).mono ?_); rintro e w1 ⟨rfl, m1, r1, k1⟩; have TK := Lib.hid (Tk.of (p := v) (q := true) hlt HI.out HX.out m1 r1 k1 _ rfl); clear m1 r1 k1)
        obtain ⟨V, hV⟩ : ∃ V, w1.alloc (.cells #[.int .i64 v, .bool true] 64) = V := ⟨_, rfl⟩
        rw [hV] at TK
        try rw [hV]
        clear hV
        have hxV := TK.out.x
        obtain ⟨⟨x0, x1, x2⟩, _⟩ := three_of hxV
        obtain ⟨⟨y0, y1⟩, _⟩ := TK.out.y.two
        obtain ⟨A, c, hb⟩ := TK.out.m.cells
        obtain ⟨⟨b0, b1, b2, b3⟩, f0, f1, f2, f3⟩ := hb.four
        clear hb hxV
        go_wp2_with (fail)
        go_ret
        exact ⟨rfl, TK.out.r, TK.out.k, D, _, _, TK.out.m, fun _ => ⟨rfl, rfl⟩⟩
set_option maxRecDepth 100000 in
set_option maxHeartbeats 4000000 in
theorem lelse_any (b D : Nat) (ov : Value) (st : Int) (S : List Ce) (m : Nat × Ms) (os : List Of) (i : Nat) (o n : Int) (nm : List UInt8) (s : ByteArray) (hn : 0 ≤ n) (hm : stepM os (9, n, nm) i (S, 0) = m) (w0 w : World) (hr : Rel w0 w) (h : Mh w w0.heap.size D b ov ((i + 1 : Nat) : Int) st S) :
    Calls Tryz.prog 81 #[.pointer (some ⟨b, 0, none⟩), .agg #[.int .i64 o, .int .i64 n, .string s]] w (OX w0 b ov st w m) := by
  rcases stack_ways S with rfl | ⟨R, t, rfl⟩
  · skip
    have hlt := h.lt
    have HI := Lib.hid (hr.self.alloc (.cells #[.int .i64 o, .int .i64 n, .string s] 45))
    have HX := Lib.hid (Bk.new w 45 #[.int .i64 o, .int .i64 n, .string s])
    have HM := Lib.hid (h.rel HI.out)
    have HR := Lib.hid (hr.trans HI.out)
    obtain ⟨W, hW⟩ : ∃ W, w.alloc (.cells #[.int .i64 o, .int .i64 n, .string s] 45) = W := ⟨_, rfl⟩
    rw [hW] at HI HX HM HR
    clear hr h
    rw [lstep_else, take_none] at hm
    subst hm
    go_enter Tryz.func81, Tryz.ntmps81
    go_wp2_with (go_at_call 117; (with_reducible refine (ltake_nil b D ov _ st w0 W HR.out HM.out).mono ?_); rintro e w1 ⟨rfl, h1⟩; have R1 := Lib.hid h1; have M1 := Lib.hid (HM.out.rel h1); clear h1)
    go_ret
    exact ⟨rfl, (HR.out.trans R1.out).alloc _, Kr.trans (Kr.rel HI.out) (Kr.rel (R1.out.alloc _)), D, _, _, M1.out.rel (R1.out.self.alloc _), fun h0 => absurd (show (100 : Int) = 0 from h0) (by decide)⟩
  · rw [lstep_else, take_last] at hm
    simp only at hm
    have hlt := h.lt
    have HI := Lib.hid (hr.self.alloc (.cells #[.int .i64 o, .int .i64 n, .string s] 45))
    have HX := Lib.hid (Bk.new w 45 #[.int .i64 o, .int .i64 n, .string s])
    have HM := Lib.hid (h.rel HI.out)
    have HR := Lib.hid (hr.trans HI.out)
    obtain ⟨W, hW⟩ : ∃ W, w.alloc (.cells #[.int .i64 o, .int .i64 n, .string s] 45) = W := ⟨_, rfl⟩
    rw [hW] at HI HX HM HR
    clear hr h
    rcases t with _ | v
    · simp only at hm
      subst hm
      go_enter Tryz.func81, Tryz.ntmps81
      go_wp2_with (go_at_call 117; (with_reducible refine (ltake_as b D ov _ st R none 0 false (Lib.hid rfl) w0 W HR.out HM.out).mono ?_); rintro e w1 ⟨rfl, m1, r1, k1⟩; have TK := Lib.hid (Tk.of (p := 0) (q := false) hlt HI.out HX.out m1 r1 k1 _ rfl); clear m1 r1 k1)
      go_ret
      exact ⟨rfl, TK.out.r, TK.out.k, D, _, _, TK.out.m, fun _ => ⟨rfl, rfl⟩⟩
    · simp only at hm
      obtain ⟨⟨T, er⟩, hTe⟩ : ∃ Te, putM (R, 0) (some v) = Te := ⟨_, rfl⟩
      have HP := Lib.hid hTe
      rw [hTe] at hm
      subst hm
      clear hTe
      go_enter Tryz.func81, Tryz.ntmps81
      go_upto_region 4 with (go_at_call 117; (with_reducible refine (ltake_as b D ov _ st R (some v) v true (Lib.hid rfl) w0 W HR.out HM.out).mono ?_); rintro e w1 ⟨rfl, m1, r1, k1⟩; have TK := Lib.hid (Tk.of (p := v) (q := true) hlt HI.out HX.out m1 r1 k1 _ rfl); clear m1 r1 k1)
      obtain ⟨V, hV⟩ : ∃ V, w1.alloc (.cells #[.int .i64 v, .bool true] 64) = V := ⟨_, rfl⟩
      rw [hV] at TK
      try rw [hV]
      clear hV
      have hxV := TK.out.x
      obtain ⟨⟨x0, x1, x2⟩, _⟩ := three_of hxV
      obtain ⟨⟨y0, y1⟩, _⟩ := TK.out.y.two
      obtain ⟨A, c, hb⟩ := TK.out.m.cells
      obtain ⟨⟨b0, b1, b2, b3⟩, f0, f1, f2, f3⟩ := hb.four
      clear hb hxV
      have RU := Lib.hid (TK.out.r.setCell (p := ⟨b, 1, none⟩) TK.out.m.1 (.int .i64 n))
      have MU := Lib.hid (TK.out.m.next n)
      have KU := Lib.hid (Kr.set TK.out.k (p := ⟨b, 1, none⟩) rfl (.int .i64 n))
      have YU := Lib.hid (TK.out.y.far (p := ⟨b, 1, none⟩) TK.out.ne (.int .i64 n))
      go_upto_region 5 with (fail)
      obtain ⟨U, hU⟩ : ∃ U, V.setCell ⟨b, 1, none⟩ (.int .i64 n) = U := ⟨_, rfl⟩
      rw [hU] at RU MU KU YU
      try rw [hU]
      clear hU
      obtain ⟨⟨z0, z1⟩, _⟩ := YU.out.two
      go_wp2_with (go_at_call 118; (with_reducible refine (lput_as b D ov n st R T er (some v) v true (Lib.hid rfl) HP w0 U RU.out MU.out).mono ?_); rintro e w3 ⟨rfl, r3, k3, D3, S3, m3, e3⟩)
      go_ret
      exact ⟨rfl, r3, Kr.trans KU.out k3, D3, S3, n, m3, fun h0 => ⟨(Int.toNat_of_nonneg hn).symm, e3 h0⟩⟩
end Go.Proofs.YtcckemhelockaaaGreatDoor

namespace Go.Proofs.YtcckemhelockaaaGreatDoor
open Go.RowKit Go.Lib
set_option linter.unusedVariables false
set_option linter.unusedSimpArgs false
def lopsL (b : Nat) : List (Int × Value) := [(13, .func (.func 85) #[.pointer (some ⟨b, 0, none⟩)] #[]), (12, .func (.func 84) #[.pointer (some ⟨b, 0, none⟩)] #[]), (11, .func (.func 83) #[.pointer (some ⟨b, 0, none⟩)] #[]), (10, .func (.func 82) #[.pointer (some ⟨b, 0, none⟩)] #[]), (9, .func (.func 81) #[.pointer (some ⟨b, 0, none⟩)] #[]), (8, .func (.func 80) #[.pointer (some ⟨b, 0, none⟩)] #[]), (7, .func (.func 79) #[.pointer (some ⟨b, 0, none⟩)] #[]), (6, .func (.func 78) #[.pointer (some ⟨b, 0, none⟩)] #[]), (5, .func (.func 77) #[.pointer (some ⟨b, 0, none⟩)] #[]), (4, .func (.func 76) #[.pointer (some ⟨b, 0, none⟩)] #[]), (3, .func (.func 75) #[.pointer (some ⟨b, 0, none⟩)] #[]), (2, .func (.func 74) #[.pointer (some ⟨b, 0, none⟩)] #[]), (1, .func (.func 73) #[.pointer (some ⟨b, 0, none⟩)] #[])]
set_option maxRecDepth 100000 in
set_option maxHeartbeats 8000000 in
theorem loperations_any (b : Nat) (w0 w : World) (hr : Rel w0 w) :
    Calls Tryz.prog 42 #[.pointer (some ⟨b, 0, none⟩)] w fun r w' => ∃ q, r = .returned (.map (some q)) ∧ w.heap.size ≤ q ∧ MapIs w' q (lopsL b) ∧ Rel w w' := by
  have hmm := @run_makeMap Tryz.prog
  have hmf : ∀ (fn : Fn) (first cap : Array Value) (w : World), (Instr.makeFunc fn first cap).run Tryz.prog w = .ok (.func fn first cap) w := fun _ _ _ _ => rfl
  have m0 := MapIs.made w
  have hw : w.heap.size ≤ w.heap.size := Nat.le_refl _
  have r0 := hr.self.alloc (.map #[] 0)
  clear hr
  go_enter Tryz.func42, Tryz.ntmps42
  go_wp2_with (first
    | (refine wp_entry _ rfl _ _ _ 88 rfl 90 Tryz.underlying88 _ _ rfl m0 (show (0 : Nat) < maxLen by decide) 1 (.func (.func 73) #[.pointer (some ⟨b, 0, none⟩)] #[]) rfl (by decide) rfl ?_; intro w1 m1 g1; have r1 := Rel.grown r0 g1 (fun k hk => by injection hk with hk; rw [← hk]; exact hw); clear m0 g1 r0)
    | (refine wp_entry _ rfl _ _ _ 88 rfl 90 Tryz.underlying88 _ _ rfl m1 (show (1 : Nat) < maxLen by decide) 2 (.func (.func 74) #[.pointer (some ⟨b, 0, none⟩)] #[]) rfl (by decide) rfl ?_; intro w2 m2 g2; have r2 := Rel.grown r1 g2 (fun k hk => by injection hk with hk; rw [← hk]; exact hw); clear m1 g2 r1)
    | (refine wp_entry _ rfl _ _ _ 88 rfl 90 Tryz.underlying88 _ _ rfl m2 (show (2 : Nat) < maxLen by decide) 3 (.func (.func 75) #[.pointer (some ⟨b, 0, none⟩)] #[]) rfl (by decide) rfl ?_; intro w3 m3 g3; have r3 := Rel.grown r2 g3 (fun k hk => by injection hk with hk; rw [← hk]; exact hw); clear m2 g3 r2)
    | (refine wp_entry _ rfl _ _ _ 88 rfl 90 Tryz.underlying88 _ _ rfl m3 (show (3 : Nat) < maxLen by decide) 4 (.func (.func 76) #[.pointer (some ⟨b, 0, none⟩)] #[]) rfl (by decide) rfl ?_; intro w4 m4 g4; have r4 := Rel.grown r3 g4 (fun k hk => by injection hk with hk; rw [← hk]; exact hw); clear m3 g4 r3)
    | (refine wp_entry _ rfl _ _ _ 88 rfl 90 Tryz.underlying88 _ _ rfl m4 (show (4 : Nat) < maxLen by decide) 5 (.func (.func 77) #[.pointer (some ⟨b, 0, none⟩)] #[]) rfl (by decide) rfl ?_; intro w5 m5 g5; have r5 := Rel.grown r4 g5 (fun k hk => by injection hk with hk; rw [← hk]; exact hw); clear m4 g5 r4)
    | (refine wp_entry _ rfl _ _ _ 88 rfl 90 Tryz.underlying88 _ _ rfl m5 (show (5 : Nat) < maxLen by decide) 6 (.func (.func 78) #[.pointer (some ⟨b, 0, none⟩)] #[]) rfl (by decide) rfl ?_; intro w6 m6 g6; have r6 := Rel.grown r5 g6 (fun k hk => by injection hk with hk; rw [← hk]; exact hw); clear m5 g6 r5)
    | (refine wp_entry _ rfl _ _ _ 88 rfl 90 Tryz.underlying88 _ _ rfl m6 (show (6 : Nat) < maxLen by decide) 7 (.func (.func 79) #[.pointer (some ⟨b, 0, none⟩)] #[]) rfl (by decide) rfl ?_; intro w7 m7 g7; have r7 := Rel.grown r6 g7 (fun k hk => by injection hk with hk; rw [← hk]; exact hw); clear m6 g7 r6)
    | (refine wp_entry _ rfl _ _ _ 88 rfl 90 Tryz.underlying88 _ _ rfl m7 (show (7 : Nat) < maxLen by decide) 8 (.func (.func 80) #[.pointer (some ⟨b, 0, none⟩)] #[]) rfl (by decide) rfl ?_; intro w8 m8 g8; have r8 := Rel.grown r7 g8 (fun k hk => by injection hk with hk; rw [← hk]; exact hw); clear m7 g8 r7)
    | (refine wp_entry _ rfl _ _ _ 88 rfl 90 Tryz.underlying88 _ _ rfl m8 (show (8 : Nat) < maxLen by decide) 9 (.func (.func 81) #[.pointer (some ⟨b, 0, none⟩)] #[]) rfl (by decide) rfl ?_; intro w9 m9 g9; have r9 := Rel.grown r8 g9 (fun k hk => by injection hk with hk; rw [← hk]; exact hw); clear m8 g9 r8)
    | (refine wp_entry _ rfl _ _ _ 88 rfl 90 Tryz.underlying88 _ _ rfl m9 (show (9 : Nat) < maxLen by decide) 10 (.func (.func 82) #[.pointer (some ⟨b, 0, none⟩)] #[]) rfl (by decide) rfl ?_; intro w10 m10 g10; have r10 := Rel.grown r9 g10 (fun k hk => by injection hk with hk; rw [← hk]; exact hw); clear m9 g10 r9)
    | (refine wp_entry _ rfl _ _ _ 88 rfl 90 Tryz.underlying88 _ _ rfl m10 (show (10 : Nat) < maxLen by decide) 11 (.func (.func 83) #[.pointer (some ⟨b, 0, none⟩)] #[]) rfl (by decide) rfl ?_; intro w11 m11 g11; have r11 := Rel.grown r10 g11 (fun k hk => by injection hk with hk; rw [← hk]; exact hw); clear m10 g11 r10)
    | (refine wp_entry _ rfl _ _ _ 88 rfl 90 Tryz.underlying88 _ _ rfl m11 (show (11 : Nat) < maxLen by decide) 12 (.func (.func 84) #[.pointer (some ⟨b, 0, none⟩)] #[]) rfl (by decide) rfl ?_; intro w12 m12 g12; have r12 := Rel.grown r11 g12 (fun k hk => by injection hk with hk; rw [← hk]; exact hw); clear m11 g12 r11)
    | (refine wp_entry _ rfl _ _ _ 88 rfl 90 Tryz.underlying88 _ _ rfl m12 (show (12 : Nat) < maxLen by decide) 13 (.func (.func 85) #[.pointer (some ⟨b, 0, none⟩)] #[]) rfl (by decide) rfl ?_; intro w13 m13 g13; have r13 := Rel.grown r12 g13 (fun k hk => by injection hk with hk; rw [← hk]; exact hw); clear m12 g13 r12))
  go_ret
  exact ⟨_, rfl, hw, m13, r13⟩
/-- What is done where an operation is looked up. -/
def OpIs (b : Nat) (os : List Of) (A' : Option Addr) (c' : Nat) (i : Nat) (o n : Int) (nm : List UInt8) (fn : FuncId) : Prop :=
  ∀ (D : Nat) (st : Int) (S : List Ce) (w0 w : World), Rel w0 w → Mh w w0.heap.size D b (.slice A' os.length c') ((i + 1 : Nat) : Int) st S → OffArg w A' c' os →
    Calls Tryz.prog fn #[.pointer (some ⟨b, 0, none⟩), .agg #[.int .i64 o, .int .i64 n, .string (B nm)]] w (OX w0 b (.slice A' os.length c') st w (stepM os (o, n, nm) i (S, 0)))
set_option maxRecDepth 100000 in
set_option maxHeartbeats 8000000 in
theorem lops_any (H : EvalOk) (b : Nat) (os : List Of) (hok : offsOk os = true) (A' : Option Addr) (c' : Nat) (len i : Nat) (o n : Int) (nm : List UInt8) (hin : inOk len i (o, n, nm) = true) :
    ∃ fn : FuncId, look (lopsL b) o = some (.func (.func fn) #[.pointer (some ⟨b, 0, none⟩)] #[]) ∧ (∀ (args : Array Value) (w : World), (callFunc fn args).run Tryz.prog w = .ok (.enter fn args) w) ∧ OpIs b os A' c' i o n nm fn := by
  have hin0 := hin
  rw [inOk_eq] at hin
  simp only [Bool.and_eq_true, decide_eq_true_eq] at hin
  obtain ⟨⟨h1, h2⟩, h3⟩ := hin
  have hn0 : 0 ≤ n := by
    have : 0 ≤ leastO i o := by unfold leastO; split <;> omega
    omega
  have ways : o = 1 ∨ o = 2 ∨ o = 3 ∨ o = 4 ∨ o = 5 ∨ o = 6 ∨ o = 7 ∨ o = 8 ∨ o = 9 ∨ o = 10 ∨ o = 11 ∨ o = 12 ∨ o = 13 := by omega
  have hx : ∀ (o : Int), o = 1 → mostO len o = 1000000000000 := by rintro o rfl; rfl
  rcases ways with rfl | rfl | rfl | rfl | rfl | rfl | rfl | rfl | rfl | rfl | rfl | rfl | rfl
  · exact ⟨73, rfl, fun _ _ => rfl, fun D st S w0 w hr h ho => by
      obtain ⟨⟨T, er⟩, hTe⟩ : ∃ Te, putM (S, 0) (some n) = Te := ⟨_, rfl⟩
      exact (lpush_any H b D _ _ st S T er os A' c' (Lib.hid rfl) hok 1 n (B nm) ⟨hn0, by have := hx 1 rfl; omega⟩ (Lib.hid hTe) w0 w hr h ho).mono fun e w' hh => LP.ox hh (show (i + 1, putM (S, 0) (some n)) = _ by rw [hTe])⟩
  · exact ⟨74, rfl, fun _ _ => rfl, fun D st S w0 w hr h ho => by
      obtain ⟨⟨T, er⟩, hTe⟩ : ∃ Te, putM (S, 0) (rk os 0) = Te := ⟨_, rfl⟩
      exact (llowest_any H b D _ _ st S T er os A' c' (Lib.hid rfl) hok 2 n (B nm) (Lib.hid hTe) w0 w hr h ho).mono fun e w' hh => LP.ox hh (show (i + 1, putM (S, 0) (rk os 0)) = _ by rw [hTe])⟩
  · exact ⟨75, rfl, fun _ _ => rfl, fun D st S w0 w hr h ho => by
      obtain ⟨⟨T, er⟩, hTe⟩ : ∃ Te, putM (S, 0) (rk os 1) = Te := ⟨_, rfl⟩
      exact (lsecond_any H b D _ _ st S T er os A' c' (Lib.hid rfl) hok 3 n (B nm) (Lib.hid hTe) w0 w hr h ho).mono fun e w' hh => LP.ox hh (show (i + 1, putM (S, 0) (rk os 1)) = _ by rw [hTe])⟩
  · exact ⟨76, rfl, fun _ _ => rfl, fun D st S w0 w hr h ho => by
      obtain ⟨⟨T, er⟩, hTe⟩ : ∃ Te, putM (S, 0) (fromO os nm) = Te := ⟨_, rfl⟩
      exact (lfrom_any H b D _ _ st S T er os A' c' (Lib.hid rfl) hok 4 n (B nm) nm rfl (by simpa using h3) (Lib.hid hTe) w0 w hr h ho).mono fun e w' hh => LP.ox hh (show (i + 1, putM (S, 0) (fromO os nm)) = _ by rw [hTe])⟩
  · exact ⟨77, rfl, fun _ _ => rfl, fun D st S w0 w hr h ho => by
      obtain ⟨⟨T, er⟩, hTe⟩ : ∃ Te, minusM (takeM (S, 0)).2 (takeM (S, 0)).1 (fun v => subR v n) = Te := ⟨_, rfl⟩
      exact (lless_any b D _ _ st S T er 5 n (B nm) (Lib.hid hTe) w0 w hr h).mono fun e w' hh => LP.ox hh (show (i + 1, minusM (takeM (S, 0)).2 (takeM (S, 0)).1 (fun v => subR v n)) = _ by rw [hTe])⟩
  · exact ⟨78, rfl, fun _ _ => rfl, fun D st S w0 w hr h ho => by
      obtain ⟨⟨T, er⟩, hTe⟩ : ∃ Te, minusM (takeM (S, 0)).2 (takeM (S, 0)).1 (fun v => cutR v n) = Te := ⟨_, rfl⟩
      exact (lcutop_any b D _ _ st S T er 6 n (B nm) (Lib.hid hTe) w0 w hr h).mono fun e w' hh => LP.ox hh (show (i + 1, minusM (takeM (S, 0)).2 (takeM (S, 0)).1 (fun v => cutR v n)) = _ by rw [hTe])⟩
  · exact ⟨79, rfl, fun _ _ => rfl, fun D st S w0 w hr h ho => by
      obtain ⟨⟨T, er⟩, hTe⟩ : ∃ Te, twoM 7 (S, 0) = Te := ⟨_, rfl⟩
      exact (llesser_any b D _ _ st S T er 7 n (B nm) (Lib.hid hTe) w0 w hr h).mono fun e w' hh => LP.ox hh (show (i + 1, twoM 7 (S, 0)) = _ by rw [hTe])⟩
  · exact ⟨80, rfl, fun _ _ => rfl, fun D st S w0 w hr h ho => by
      obtain ⟨⟨T, er⟩, hTe⟩ : ∃ Te, twoM 8 (S, 0) = Te := ⟨_, rfl⟩
      exact (lgreater_any b D _ _ st S T er 8 n (B nm) (Lib.hid hTe) w0 w hr h).mono fun e w' hh => LP.ox hh (show (i + 1, twoM 8 (S, 0)) = _ by rw [hTe])⟩
  · exact ⟨81, rfl, fun _ _ => rfl, fun D st S w0 w hr h ho => by
      exact lelse_any b D _ st S _ os i 9 n nm (B nm) hn0 rfl w0 w hr h⟩
  · exact ⟨82, rfl, fun _ _ => rfl, fun D st S w0 w hr h ho => by
      obtain ⟨⟨T, er⟩, hTe⟩ : ∃ Te, putM (S, 0) (some (if n < (os.length : Int) then 1 else 0)) = Te := ⟨_, rfl⟩
      exact (lmore_any b D _ _ st S T er os A' c' (Lib.hid rfl) 10 n (B nm) (Lib.hid hTe) w0 w hr h).mono fun e w' hh => LP.ox hh (show (i + 1, putM (S, 0) (some (if n < (os.length : Int) then 1 else 0))) = _ by rw [hTe])⟩
  · exact ⟨83, rfl, fun _ _ => rfl, fun D st S w0 w hr h ho => by
      obtain ⟨⟨T, er⟩, hTe⟩ : ∃ Te, twoM 11 (S, 0) = Te := ⟨_, rfl⟩
      exact (labove_any b D _ _ st S T er 11 n (B nm) (Lib.hid hTe) w0 w hr h).mono fun e w' hh => LP.ox hh (show (i + 1, twoM 11 (S, 0)) = _ by rw [hTe])⟩
  · exact ⟨84, rfl, fun _ _ => rfl, fun D st S w0 w hr h ho => by
      exact lunless_any b D _ st S _ os i 12 n nm (B nm) hn0 rfl w0 w hr h⟩
  · exact ⟨85, rfl, fun _ _ => rfl, fun D st S w0 w hr h ho => by
      exact ljump_any b D _ st S _ os i 13 n nm (B nm) hn0 rfl w0 w hr h⟩
end Go.Proofs.YtcckemhelockaaaGreatDoor

namespace Go.Proofs.YtcckemhelockaaaGreatDoor
open Go.RowKit Go.Lib
set_option linter.unusedVariables false
set_option linter.unusedSimpArgs false
theorem drop_cons (s : ByteArray) (p : Nat) (h : p < s.size) : s.data.toList.drop p = (s[p]'h) :: s.data.toList.drop (p + 1) := by
  have el : s.data.toList.length = s.size := by simp
  rw [List.drop_eq_getElem_cons (by omega)]; rfl
/-- How far a scan is: at p, behind these tokens. -/
def At (l : List UInt8) (p : Nat) (ts : List Tok) : Prop := lx 0 l = pre ts (lx p (l.drop p)) ∧ ts.length ≤ p
theorem At.start (l : List UInt8) : At l 0 [] := ⟨by rw [pre_nil]; rfl, by simp⟩
theorem At.bad {s : ByteArray} {p : Nat} {ts : List Tok} {x : List UInt8} (h : At s.data.toList p ts) (hp : p < s.size) (hb : isBl (s[p]'hp) = false) (hg : isSg (s[p]'hp) = false)
    (hx : (s.data.toList.drop p).takeWhile isPt = x) (ht : tokOf x = none) : lx 0 s.data.toList = .error p := by
  rw [h.1]
  have e := drop_cons s p hp
  rw [e] at hx
  rw [e, lx_bad _ _ _ hb hg (by rw [hx]; exact ht)]; rfl
theorem TokPost.cases {l : List UInt8} {p : Int} {e : Ending} (h : TokPost l p e) : ∃ (t : Tok) (b : Bool), e = .returned (.tuple #[TK t, .bool b]) ∧ (b = true → ∃ k n, tokOf l = some (k, n) ∧ t = (k, l, n, p)) ∧ (b = false → tokOf l = none) := by
  rcases h with ⟨k, n, h, rfl⟩ | ⟨h, t, rfl⟩
  · exact ⟨_, true, rfl, (fun _ => ⟨k, n, h, rfl⟩), (fun h => by cases h)⟩
  · exact ⟨t, false, rfl, (fun h => by cases h), fun _ => h⟩
end Go.Proofs.YtcckemhelockaaaGreatDoor

namespace Go.Proofs.YtcckemhelockaaaGreatDoor
open Go.Lib
set_option linter.unusedVariables false
set_option linter.unusedSimpArgs false
/-- The tokens ahead of an error, or all; the place of the error. -/
def lxP (p : Nat) (l : List UInt8) : List Tok × Option Nat :=
  match l with
  | [] => ([(5, [], 0, (p : Int))], none)
  | c :: t =>
    if isBl c then lxP (p + 1) t
    else if isSg c then ((4, [c], 0, (p : Int)) :: (lxP (p + 1) t).1, (lxP (p + 1) t).2)
    else
      match h : tokOf ((c :: t).takeWhile isPt) with
      | none => ([], some p)
      | some kn => ((kn.1, (c :: t).takeWhile isPt, kn.2, (p : Int)) :: (lxP (p + ((c :: t).takeWhile isPt).length) ((c :: t).dropWhile isPt)).1, (lxP (p + ((c :: t).takeWhile isPt).length) ((c :: t).dropWhile isPt)).2)
  termination_by l.length
  decreasing_by
    all_goals simp_wf
    all_goals
      have h1 := tokOf_ne (k := kn.1) (n := kn.2) h
      have h2 := run_len (c :: t)
      have h3 : 1 ≤ ((c :: t).takeWhile isPt).length := by
        rcases hx : (c :: t).takeWhile isPt with _ | ⟨a, b⟩
        · exact absurd hx h1
        · simp
      simp at h2 h3 ⊢
      omega
theorem lxP_bad (p : Nat) (c : UInt8) (t : List UInt8) (h : isBl c = false) (h' : isSg c = false) (hn : tokOf ((c :: t).takeWhile isPt) = none) : lxP p (c :: t) = ([], some p) := by
  rw [lxP, if_neg (by rw [h]; simp), if_neg (by rw [h']; simp)]
  split
  · rfl
  · rename_i h2; rw [hn] at h2; cases h2
/-- How far a scan is that tells one token behind the other. -/
def AtP (l : List UInt8) (p : Nat) (ts : List Tok) : Prop := lxP 0 l = (ts ++ (lxP p (l.drop p)).1, (lxP p (l.drop p)).2) ∧ ts.length ≤ p
theorem AtP.start (l : List UInt8) : AtP l 0 [] := ⟨rfl, Nat.le_refl _⟩
theorem AtP.bad {l : List UInt8} {p : Nat} {ts : List Tok} {c : UInt8} {t x : List UInt8} (h : AtP l p ts) (hp : l.drop p = c :: t) (hb : isBl c = false) (hg : isSg c = false)
    (hx : (l.drop p).takeWhile isPt = x) (ht : tokOf x = none) : lxP 0 l = (ts, some p) := by
  rw [hp] at hx
  rw [h.1, hp, lxP_bad _ _ _ hb hg (by rw [hx]; exact ht)]; simp
end Go.Proofs.YtcckemhelockaaaGreatDoor
