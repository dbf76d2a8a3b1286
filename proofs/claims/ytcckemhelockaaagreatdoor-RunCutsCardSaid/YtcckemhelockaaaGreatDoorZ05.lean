/- The landed operations of layer 11 that ask the offers; The program's answers of layer 1 that layer 9 asks for; The landed operations of layer 11 that change one: less, cut. -/
import Derived.Test.YtcckemhelockaaaGreatDoorZL
import Derived.Test.YtcckemhelockaaaGreatDoorZ00
import Derived.Test.YtcckemhelockaaaGreatDoorZ01
import Derived.Test.YtcckemhelockaaaGreatDoorZ02
import Derived.Test.YtcckemhelockaaaGreatDoorZ03
import Derived.Test.YtcckemhelockaaaGreatDoorZ04
namespace Go.Proofs.YtcckemhelockaaaGreatDoor
open Go.RowKit Go.Lib
set_option linter.unusedVariables false
set_option linter.unusedSimpArgs false
/-- Behind a call of the machine: the error told; the stack, if there is none. -/
def LP (w0 : World) (b : Nat) (ov : Value) (nx st : Int) (w : World) (T : List Ce) (er : Int) (e : Ending) (w' : World) : Prop :=
  e = .returned (.int .i64 er) ∧ Rel w0 w' ∧ Kl b w w' ∧ ∃ D S, Mh w' w0.heap.size D b ov nx st S ∧ (er = 0 → S = T)
theorem LP.back {w0 w w1 w' : World} {b : Nat} {ov : Value} {nx st er : Int} {T : List Ce} {e : Ending} (hk : Kl b w w1) (h : Rel w0 w' ∧ Kl b w1 w' ∧ ∃ D S, Mh w' w0.heap.size D b ov nx st S ∧ (er = 0 → S = T)) (he : e = .returned (.int .i64 er)) : LP w0 b ov nx st w T er e w' :=
  ⟨he, h.1, Kr.trans hk h.2.1, h.2.2⟩
theorem LP.same {w0 w w' : World} {D b : Nat} {ov : Value} {nx st er : Int} {S T : List Ce} {e : Ending} (hr : Rel w0 w) (h : Mh w w0.heap.size D b ov nx st S) (hw : Rel w w') (he : e = .returned (.int .i64 er)) (hne : er ≠ 0) : LP w0 b ov nx st w T er e w' :=
  ⟨he, hr.trans hw, Kr.rel hw, D, S, h.rel hw, fun h0 => absurd h0 hne⟩
theorem ce_val (c : Ce) : ∃ (p : Int) (q : Bool), CV1 c = .agg #[.int .i64 p, .bool q] := ⟨_, _, rfl⟩
theorem lput_as (b D : Nat) (ov : Value) (nx st : Int) (S T : List Ce) (er : Int) (c : Ce) (p : Int) (q : Bool) (hv : Hid (CV1 c = .agg #[.int .i64 p, .bool q])) (hm : Hid (putM (S, 0) c = (T, er))) (w0 w : World) (hr : Rel w0 w) (h : Mh w w0.heap.size D b ov nx st S) :
    Calls Tryz.prog 118 #[.pointer (some ⟨b, 0, none⟩), .agg #[.int .i64 p, .bool q]] w (LP w0 b ov nx st w T er) := by
  rw [← hv.out]
  have hm := hm.out
  rcases Nat.lt_or_ge S.length 100 with h1 | h1
  · rw [put_room h1 c] at hm
    injection hm with h2 h3
    subst h2 h3
    exact (lput_room b D ov nx st S c h1 w0 w hr h).mono fun e w' hh => ⟨hh.1, hh.2.2.1, hh.2.2.2, _, _, hh.2.1, fun _ => rfl⟩
  · rw [put_full h1 c] at hm
    injection hm with h2 h3
    subst h2 h3
    exact (lput_full b D ov nx st S c (by have := h.2.2.2.1; omega) w0 w hr h).mono fun e w' hh => LP.same hr h hh.2 hh.1 (by decide)
theorem lrv_ok (c : Ce) : RV (.ok c) = .tuple #[.int .i64 (c.getD 0), .bool c.isSome, .int .i64 0] := by cases c <;> rfl
set_option maxRecDepth 100000 in
set_option maxHeartbeats 4000000 in
theorem lamount_any (n : Int) (w0 w : World) (hr : Rel w0 w) :
    Calls Tryz.prog 134 #[.int .i64 n] w fun e w' => e = .returned (.agg #[.int .i64 n, .bool true]) ∧ Rel w w' := by
  have HR := Lib.hid hr.self
  have hz : w.heap.size ≤ w.heap.size := Nat.le_refl _
  clear hr
  go_enter Tryz.func134, Tryz.ntmps134
  go_wp2_with (fail)
  exact bodyPost_ret (v := .agg #[.int .i64 n, .bool true]) (by simp [results, Tryz.results134, go_sem]) rfl ⟨rfl, by first | exact HR.out.alloc _ | exact ((HR.out.alloc _).setCell hz _).setCell hz _⟩
set_option maxRecDepth 100000 in
set_option maxHeartbeats 4000000 in
theorem lso_any (q : Bool) (n : Int) (hn : Hid ((if q then 1 else 0) = n)) (w0 w : World) (hr : Rel w0 w) :
    Calls Tryz.prog 119 #[.bool q] w fun e w' => e = .returned (.agg #[.int .i64 n, .bool true]) ∧ Rel w w' := by
  have HA := Lib.hid (hr.self.alloc (.cells #[.int .i64 0, .bool false] 64))
  have HX := Lib.hid (Bk.new w 64 #[.int .i64 0, .bool false])
  obtain ⟨W, hW⟩ : ∃ W, w.alloc (.cells #[.int .i64 0, .bool false] 64) = W := ⟨_, rfl⟩
  rw [hW] at HA HX
  clear hr
  have hn := hn.out
  cases q with
  | true =>
    simp only [if_true] at hn
    subst hn
    go_enter Tryz.func119, Tryz.ntmps119
    go_wp2_with (go_at_call 134; (with_reducible refine (lamount_any 1 _ _ HA.out).mono ?_); rintro e w1 ⟨rfl, h1⟩; have R1 := Lib.hid h1; obtain ⟨⟨d0, d1⟩, e0, e1⟩ := (HX.out.rel h1).two)
    obtain ⟨⟨r0, r1⟩, _⟩ := ((HX.out.rel R1.out).put (.int .i64 1) (.bool true)).two
    exact bodyPost_ret (v := .agg #[.int .i64 1, .bool true]) (by simp [results, Tryz.results119, go_sem, r0, r1]) rfl ⟨rfl, (HA.out.trans R1.out).box (Nat.le_refl _) _ _⟩
  | false =>
    simp only [Bool.false_eq_true, if_false] at hn
    subst hn
    go_enter Tryz.func119, Tryz.ntmps119
    go_wp2_with (go_at_call 134; (with_reducible refine (lamount_any 0 _ _ HA.out).mono ?_); rintro e w1 ⟨rfl, h1⟩; have R1 := Lib.hid h1; obtain ⟨⟨d0, d1⟩, e0, e1⟩ := (HX.out.rel h1).two)
    obtain ⟨⟨r0, r1⟩, _⟩ := ((HX.out.rel R1.out).put (.int .i64 0) (.bool true)).two
    exact bodyPost_ret (v := .agg #[.int .i64 0, .bool true]) (by simp [results, Tryz.results119, go_sem, r0, r1]) rfl ⟨rfl, (HA.out.trans R1.out).box (Nat.le_refl _) _ _⟩
set_option maxRecDepth 100000 in
set_option maxHeartbeats 4000000 in
theorem ltell_any (H : EvalOk) (b D : Nat) (ov : Value) (nx st : Int) (S T : List Ce) (er : Int) (os : List Of) (A' : Option Addr) (c' : Nat) (hov : Hid (ov = .slice A' os.length c')) (k n : Int) (nm : List UInt8) (s : ByteArray) (hs : s = B nm) (c : Ce) (hx : evalS os (.mk k n nm []) = .ok c) (hk : i64 k) (hn : i64 n) (hl : nm.length ≤ 100) (hm : Hid (putM (S, 0) c = (T, er))) (w0 w : World) (hr : Rel w0 w) (h : Mh w w0.heap.size D b ov nx st S) (ho : OffArg w A' c' os) :
    Calls Tryz.prog 110 #[.pointer (some ⟨b, 0, none⟩), .agg #[.int .i64 k, .int .i64 n, .string s, .slice none 0 0]] w (LP w0 b ov nx st w T er) := by
  subst hs
  have HOv := hov
  obtain ⟨len, hlen⟩ : ∃ len, os.length = len := ⟨_, rfl⟩
  obtain ⟨p, q, hpq⟩ := ce_val c
  have HV := Lib.hid hpq
  have HE := Lib.hid (show ∀ w1, Rel w w1 → Calls Tryz.prog 19 #[.agg #[.int .i64 k, .int .i64 n, .string (B nm), .slice none 0 0], .slice A' len c'] w1 fun z w' => z = .returned (.tuple #[.int .i64 p, .bool q, .int .i64 0]) ∧ Rel w1 w' from fun w1 hr1 => by
    have h1 := H (.mk k n nm []) (fun _ => True) (k, n, nm, none, 0, 0) A' c' os w1 w1 (hr.trans hr1).self (ExAt.leaf _ _ k n nm none 0 hk hn hl) (by rw [size_mk, sizes_nil]; decide) (ho.rel hr1)
    rw [hx, lrv_ok, hlen] at h1
    injection hpq with e1
    have e2 := congrArg Array.toList e1
    simp only [List.cons.injEq, and_true] at e2
    injection e2.1 with _ e3
    injection e2.2 with e4
    rw [e3, e4] at h1
    exact h1)
  obtain rfl := hov.out
  rw [hlen] at h
  have HM := Lib.hid h
  have HR := Lib.hid hr
  rw [hlen]
  have HA := Lib.hid (hr.self.alloc (.cells #[.int .i64 k, .int .i64 n, .string (B nm), .slice none 0 0] 38))
  have HX := Lib.hid (Bk.new w 38 #[.int .i64 k, .int .i64 n, .string (B nm), .slice none 0 0])
  have hM := h.rel HA.out
  obtain ⟨W, hW⟩ : ∃ W, w.alloc (.cells #[.int .i64 k, .int .i64 n, .string (B nm), .slice none 0 0] 38) = W := ⟨_, rfl⟩
  rw [hW] at HA HX hM
  obtain ⟨A, cc, hb⟩ := hM.cells
  obtain ⟨⟨b0, b1, b2, b3⟩, _⟩ := hb.four
  obtain ⟨⟨x0, x1, x2, x3⟩, _⟩ := HX.out.four
  clear hr h hM hb hpq ho hlen HOv hov hx
  go_enter Tryz.func110, Tryz.ntmps110
  go_upto_region 1 with (fail)
  go_region_law (rw [if_pos (by rfl)]; go_simp; go_at_call 19; (with_reducible refine (HE.out _ (HA.out.drew)).mono ?_); rintro e w1 ⟨rfl, h1⟩; have R1 := Lib.hid (HA.out.drew.trans h1))
  all_goals
    go_wp2_with (go_at_call 118; (with_reducible refine (lput_as b D _ nx st S T er c p q HV hm w0 _ (HR.out.trans R1.out) (HM.out.rel R1.out)).mono ?_); rintro e w3 ⟨rfl, h3⟩)
    go_ret
    exact LP.back (Kr.rel R1.out) h3 rfl
set_option maxRecDepth 100000 in
set_option maxHeartbeats 4000000 in
theorem lpush_any (H : EvalOk) (b D : Nat) (ov : Value) (nx st : Int) (S T : List Ce) (er : Int) (os : List Of) (A' : Option Addr) (c' : Nat) (hov : Hid (ov = .slice A' os.length c')) (hok : offsOk os = true) (o n : Int) (s : ByteArray) (hn : 0 ≤ n ∧ n ≤ 1000000000000) (hm : Hid (putM (S, 0) (some n) = (T, er))) (w0 w : World) (hr : Rel w0 w) (h : Mh w w0.heap.size D b ov nx st S) (ho : OffArg w A' c' os) :
    Calls Tryz.prog 73 #[.pointer (some ⟨b, 0, none⟩), .agg #[.int .i64 o, .int .i64 n, .string s]] w (LP w0 b ov nx st w T er) := by
  have HA := Lib.hid (hr.self.alloc (.cells #[.int .i64 o, .int .i64 n, .string s] 45))
  have HX := Lib.hid (Bk.new w 45 #[.int .i64 o, .int .i64 n, .string s])
  have HT := Lib.hid (fun (w1 : World) (hr1 : Rel w w1) => ltell_any H b D ov nx st S T er os A' c' hov 4 n [] ⟨#[]⟩ (rfl) (some n) (by rw [eval_yes hok (right_leaf (by decide) hn (by decide) (fun h => absurd h (by decide))), told_fix _ _ _ rfl]; rfl) ⟨by decide, by decide⟩ ⟨by omega, by omega⟩ (by decide) hm w0 w1 (hr.trans hr1) (h.rel hr1) (ho.rel hr1))
  obtain ⟨W, hW⟩ : ∃ W, w.alloc (.cells #[.int .i64 o, .int .i64 n, .string s] 45) = W := ⟨_, rfl⟩
  rw [hW] at HA HX
  obtain ⟨⟨x0, x1, x2⟩, _⟩ := three_of HX.out
  clear hr h ho hov hok
  go_enter Tryz.func73, Tryz.ntmps73
  go_wp2_with (go_at_call 110; (with_reducible refine (HT.out _ HA.out).mono ?_); rintro e w1 ⟨rfl, h1⟩)
  go_ret
  exact LP.back (Kr.rel HA.out) h1 rfl
set_option maxRecDepth 100000 in
set_option maxHeartbeats 4000000 in
theorem llowest_any (H : EvalOk) (b D : Nat) (ov : Value) (nx st : Int) (S T : List Ce) (er : Int) (os : List Of) (A' : Option Addr) (c' : Nat) (hov : Hid (ov = .slice A' os.length c')) (hok : offsOk os = true) (o n : Int) (s : ByteArray)  (hm : Hid (putM (S, 0) (rk os 0) = (T, er))) (w0 w : World) (hr : Rel w0 w) (h : Mh w w0.heap.size D b ov nx st S) (ho : OffArg w A' c' os) :
    Calls Tryz.prog 74 #[.pointer (some ⟨b, 0, none⟩), .agg #[.int .i64 o, .int .i64 n, .string s]] w (LP w0 b ov nx st w T er) := by
  have HA := Lib.hid (hr.self.alloc (.cells #[.int .i64 o, .int .i64 n, .string s] 45))
  have HX := Lib.hid (Bk.new w 45 #[.int .i64 o, .int .i64 n, .string s])
  have HT := Lib.hid (fun (w1 : World) (hr1 : Rel w w1) => ltell_any H b D ov nx st S T er os A' c' hov 1 0 [] ⟨#[]⟩ (rfl) (rk os 0) (by rw [eval_yes hok (right_leaf (by decide) (by decide) (by decide) (fun h => absurd h (by decide))), told_one _ _ _ rfl]) ⟨by decide, by decide⟩ ⟨by decide, by decide⟩ (by decide) hm w0 w1 (hr.trans hr1) (h.rel hr1) (ho.rel hr1))
  obtain ⟨W, hW⟩ : ∃ W, w.alloc (.cells #[.int .i64 o, .int .i64 n, .string s] 45) = W := ⟨_, rfl⟩
  rw [hW] at HA HX
  obtain ⟨⟨x0, x1, x2⟩, _⟩ := three_of HX.out
  clear hr h ho hov hok
  go_enter Tryz.func74, Tryz.ntmps74
  go_wp2_with (go_at_call 110; (with_reducible refine (HT.out _ HA.out).mono ?_); rintro e w1 ⟨rfl, h1⟩)
  go_ret
  exact LP.back (Kr.rel HA.out) h1 rfl
set_option maxRecDepth 100000 in
set_option maxHeartbeats 4000000 in
theorem lsecond_any (H : EvalOk) (b D : Nat) (ov : Value) (nx st : Int) (S T : List Ce) (er : Int) (os : List Of) (A' : Option Addr) (c' : Nat) (hov : Hid (ov = .slice A' os.length c')) (hok : offsOk os = true) (o n : Int) (s : ByteArray)  (hm : Hid (putM (S, 0) (rk os 1) = (T, er))) (w0 w : World) (hr : Rel w0 w) (h : Mh w w0.heap.size D b ov nx st S) (ho : OffArg w A' c' os) :
    Calls Tryz.prog 75 #[.pointer (some ⟨b, 0, none⟩), .agg #[.int .i64 o, .int .i64 n, .string s]] w (LP w0 b ov nx st w T er) := by
  have HA := Lib.hid (hr.self.alloc (.cells #[.int .i64 o, .int .i64 n, .string s] 45))
  have HX := Lib.hid (Bk.new w 45 #[.int .i64 o, .int .i64 n, .string s])
  have HT := Lib.hid (fun (w1 : World) (hr1 : Rel w w1) => ltell_any H b D ov nx st S T er os A' c' hov 2 0 [] ⟨#[]⟩ (rfl) (rk os 1) (by rw [eval_yes hok (right_leaf (by decide) (by decide) (by decide) (fun h => absurd h (by decide))), told_two _ _ _ rfl]) ⟨by decide, by decide⟩ ⟨by decide, by decide⟩ (by decide) hm w0 w1 (hr.trans hr1) (h.rel hr1) (ho.rel hr1))
  obtain ⟨W, hW⟩ : ∃ W, w.alloc (.cells #[.int .i64 o, .int .i64 n, .string s] 45) = W := ⟨_, rfl⟩
  rw [hW] at HA HX
  obtain ⟨⟨x0, x1, x2⟩, _⟩ := three_of HX.out
  clear hr h ho hov hok
  go_enter Tryz.func75, Tryz.ntmps75
  go_wp2_with (go_at_call 110; (with_reducible refine (HT.out _ HA.out).mono ?_); rintro e w1 ⟨rfl, h1⟩)
  go_ret
  exact LP.back (Kr.rel HA.out) h1 rfl
set_option maxRecDepth 100000 in
set_option maxHeartbeats 4000000 in
theorem lfrom_any (H : EvalOk) (b D : Nat) (ov : Value) (nx st : Int) (S T : List Ce) (er : Int) (os : List Of) (A' : Option Addr) (c' : Nat) (hov : Hid (ov = .slice A' os.length c')) (hok : offsOk os = true) (o n : Int) (s : ByteArray) (nm : List UInt8) (hs : s = B nm) (hnm : isName nm = true) (hm : Hid (putM (S, 0) (fromO os nm) = (T, er))) (w0 w : World) (hr : Rel w0 w) (h : Mh w w0.heap.size D b ov nx st S) (ho : OffArg w A' c' os) :
    Calls Tryz.prog 76 #[.pointer (some ⟨b, 0, none⟩), .agg #[.int .i64 o, .int .i64 n, .string s]] w (LP w0 b ov nx st w T er) := by
  have HA := Lib.hid (hr.self.alloc (.cells #[.int .i64 o, .int .i64 n, .string s] 45))
  have HX := Lib.hid (Bk.new w 45 #[.int .i64 o, .int .i64 n, .string s])
  have HT := Lib.hid (fun (w1 : World) (hr1 : Rel w w1) => ltell_any H b D ov nx st S T er os A' c' hov 3 0 nm s (hs) (fromO os nm) (by rw [eval_yes hok (right_leaf (by decide) (by decide) ⟨fun _ => rfl, fun _ => (name_parts hnm).1⟩ (fun _ => hnm)), told_from _ _ _ rfl]; rfl) ⟨by decide, by decide⟩ ⟨by decide, by decide⟩ (by have := (name_parts hnm).2.2.1; omega) hm w0 w1 (hr.trans hr1) (h.rel hr1) (ho.rel hr1))
  obtain ⟨W, hW⟩ : ∃ W, w.alloc (.cells #[.int .i64 o, .int .i64 n, .string s] 45) = W := ⟨_, rfl⟩
  rw [hW] at HA HX
  obtain ⟨⟨x0, x1, x2⟩, _⟩ := three_of HX.out
  clear hr h ho hov hok hs hnm
  go_enter Tryz.func76, Tryz.ntmps76
  go_wp2_with (go_at_call 110; (with_reducible refine (HT.out _ HA.out).mono ?_); rintro e w1 ⟨rfl, h1⟩)
  go_ret
  exact LP.back (Kr.rel HA.out) h1 rfl
set_option maxRecDepth 100000 in
set_option maxHeartbeats 4000000 in
theorem lmore_any (b D : Nat) (ov : Value) (nx st : Int) (S T : List Ce) (er : Int) (os : List Of) (A' : Option Addr) (c' : Nat) (hov : Hid (ov = .slice A' os.length c')) (o n : Int) (s : ByteArray) (hm : Hid (putM (S, 0) (some (if n < (os.length : Int) then 1 else 0)) = (T, er))) (w0 w : World) (hr : Rel w0 w) (h : Mh w w0.heap.size D b ov nx st S) :
    Calls Tryz.prog 82 #[.pointer (some ⟨b, 0, none⟩), .agg #[.int .i64 o, .int .i64 n, .string s]] w (LP w0 b ov nx st w T er) := by
  obtain ⟨len, hlen⟩ : ∃ len, os.length = len := ⟨_, rfl⟩
  rw [hlen] at hm hov
  obtain ⟨p, hp⟩ : ∃ p, (if n < (len : Int) then (1 : Int) else 0) = p := ⟨_, rfl⟩
  rw [hp] at hm
  obtain ⟨q, hq⟩ : ∃ q, decide (n < (len : Int)) = q := ⟨_, rfl⟩
  have HS := Lib.hid (fun (w1 : World) (hr1 : Rel w w1) => lso_any q p (Lib.hid (by rw [← hp, ← hq]; by_cases h : n < (len : Int) <;> simp [h])) w w1 hr1)
  have HM := Lib.hid h
  have HR := Lib.hid hr
  obtain rfl := hov.out
  have HA := Lib.hid (hr.self.alloc (.cells #[.int .i64 o, .int .i64 n, .string s] 45))
  have HX := Lib.hid (Bk.new w 45 #[.int .i64 o, .int .i64 n, .string s])
  have hM := h.rel HA.out
  obtain ⟨W, hW⟩ : ∃ W, w.alloc (.cells #[.int .i64 o, .int .i64 n, .string s] 45) = W := ⟨_, rfl⟩
  rw [hW] at HA HX hM
  obtain ⟨A, cc, hb⟩ := hM.cells
  obtain ⟨⟨b0, b1, b2, b3⟩, _⟩ := hb.four
  obtain ⟨⟨x0, x1, x2⟩, _⟩ := three_of HX.out
  clear hr h hM hb hlen hp hov
  go_enter Tryz.func82, Tryz.ntmps82
  go_upto_region 1 with (fail)
  go_region_law (first
    | (rw [if_pos (by rfl)]; go_simp; go_at_call 119; (with_reducible refine (HS.out _ (HA.out.drew)).mono ?_); rintro e w1 ⟨rfl, h1⟩; have R1 := Lib.hid (HA.out.drew.trans h1))
    | (rw [if_pos (by rfl)]; go_simp; go_at_call 118; (with_reducible refine (lput_as b D _ nx st S T er (some p) p true (Lib.hid rfl) hm w0 _ (HR.out.trans R1.out) (HM.out.rel R1.out)).mono ?_); rintro e w3 ⟨rfl, h3⟩))
  all_goals
    go_wp2_with (fail)
    go_ret
    exact LP.back (Kr.rel R1.out) h3 rfl
end Go.Proofs.YtcckemhelockaaaGreatDoor

namespace Go.Proofs.YtcckemhelockaaaGreatDoor
open Go.RowKit Go.Lib
set_option linter.unusedVariables false
set_option linter.unusedSimpArgs false
set_option maxHeartbeats 400000 in
theorem m9within_any (a l h : Int) (w : World) :
    Calls Tryz.prog 131 #[.int .i64 a, .int .i64 l, .int .i64 h] w fun e w' => e = .returned (.bool (wtM a l h)) ∧ w = w' := by
  by_cases h1 : l ≤ a <;> by_cases h2 : a ≤ h
  all_goals
    go_enter Tryz.func131, Tryz.ntmps131
    go_wp2
    all_goals
      go_ret
      exact ⟨ret_bool (by unfold wtM; rw [eq_comm]; first | exact decide_eq_true (by omega) | exact decide_eq_false (by omega)), rfl⟩
set_option maxHeartbeats 400000 in
theorem m9right_any (a : Int) (w : World) :
    Calls Tryz.prog 129 #[.int .i64 a] w fun e w' => e = .returned (.bool (rt a)) ∧ w = w' := by
  by_cases h1 : -1000000000000 ≤ a <;> by_cases h2 : a ≤ 1000000000000
  all_goals
    go_enter Tryz.func129, Tryz.ntmps129
    go_wp2
    all_goals
      go_ret
      exact ⟨ret_bool (by unfold rt; rw [eq_comm]; first | exact decide_eq_true (by omega) | exact decide_eq_false (by omega)), rfl⟩
set_option maxHeartbeats 400000 in
theorem m9checked_any (a : Int) (w : World) :
    Calls Tryz.prog 130 #[.int .i64 a] w fun e w' => Two e (told1 a) (told2 a) ∧ w = w' := by
  by_cases h1 : -1000000000000 ≤ a <;> by_cases h2 : a ≤ 1000000000000
  all_goals
    go_enter Tryz.func130, Tryz.ntmps130
    go_wp2
    go_ret2
    exact ⟨m9ret_two (by unfold told1 rt; simp only [decide_eq_true_eq]; split <;> omega) (by unfold told2 rt; simp only [decide_eq_true_eq]; split <;> omega), rfl⟩
set_option maxHeartbeats 400000 in
theorem m9sub_any (a b : Int) (w : World) :
    Calls Tryz.prog 101 #[.int .i64 a, .int .i64 b] w fun e w' => Two e (two1 a b (a - b)) (two2 a b (a - b)) ∧ w = w' := by
  by_cases h60 : -1000000000000 ≤ a
  · by_cases h50 : a ≤ 1000000000000
    · by_cases h40 : -1000000000000 ≤ b
      · by_cases h30 : b ≤ 1000000000000
        · by_cases h20 : -1000000000000 ≤ a - b
          · by_cases h10 : a - b ≤ 1000000000000
            · go_enter Tryz.func101, Tryz.ntmps101
              go_wp2
              go_ret2
              exact ⟨m9ret_two (by unfold two1 told1 rt; simp only [Bool.and_eq_true, decide_eq_true_eq]; (repeat' split) <;> omega) (by unfold two2 told2 rt; simp only [Bool.and_eq_true, decide_eq_true_eq]; (repeat' split) <;> omega), rfl⟩
            · go_enter Tryz.func101, Tryz.ntmps101
              go_wp2
              go_ret2
              exact ⟨m9ret_two (by unfold two1 told1 rt; simp only [Bool.and_eq_true, decide_eq_true_eq]; (repeat' split) <;> omega) (by unfold two2 told2 rt; simp only [Bool.and_eq_true, decide_eq_true_eq]; (repeat' split) <;> omega), rfl⟩
          · go_enter Tryz.func101, Tryz.ntmps101
            go_wp2
            go_ret2
            exact ⟨m9ret_two (by unfold two1 told1 rt; simp only [Bool.and_eq_true, decide_eq_true_eq]; (repeat' split) <;> omega) (by unfold two2 told2 rt; simp only [Bool.and_eq_true, decide_eq_true_eq]; (repeat' split) <;> omega), rfl⟩
        · go_enter Tryz.func101, Tryz.ntmps101
          go_wp2
          go_ret2
          exact ⟨m9ret_two (by unfold two1 told1 rt; simp only [Bool.and_eq_true, decide_eq_true_eq]; (repeat' split) <;> omega) (by unfold two2 told2 rt; simp only [Bool.and_eq_true, decide_eq_true_eq]; (repeat' split) <;> omega), rfl⟩
      · go_enter Tryz.func101, Tryz.ntmps101
        go_wp2
        go_ret2
        exact ⟨m9ret_two (by unfold two1 told1 rt; simp only [Bool.and_eq_true, decide_eq_true_eq]; (repeat' split) <;> omega) (by unfold two2 told2 rt; simp only [Bool.and_eq_true, decide_eq_true_eq]; (repeat' split) <;> omega), rfl⟩
    · go_enter Tryz.func101, Tryz.ntmps101
      go_wp2
      go_ret2
      exact ⟨m9ret_two (by unfold two1 told1 rt; simp only [Bool.and_eq_true, decide_eq_true_eq]; (repeat' split) <;> omega) (by unfold two2 told2 rt; simp only [Bool.and_eq_true, decide_eq_true_eq]; (repeat' split) <;> omega), rfl⟩
  · go_enter Tryz.func101, Tryz.ntmps101
    go_wp2
    go_ret2
    exact ⟨m9ret_two (by unfold two1 told1 rt; simp only [Bool.and_eq_true, decide_eq_true_eq]; (repeat' split) <;> omega) (by unfold two2 told2 rt; simp only [Bool.and_eq_true, decide_eq_true_eq]; (repeat' split) <;> omega), rfl⟩
set_option maxHeartbeats 400000 in
theorem m9floor_any (p : Int) (hp : -9223372036854775808 ≤ p) (hp' : p ≤ 9223372036854775807) (w : World) :
    Calls Tryz.prog 132 #[.int .i64 p] w fun e w' => e = .returned (.int .i64 (fl p)) ∧ w = w' := by
  have b1 : -922337203685477 ≤ p.tdiv 10000 := by have := tdt p 10000 (by omega); omega
  have b2 : p.tdiv 10000 ≤ 922337203685477 := by have := tdt p 10000 (by omega); omega
  by_cases h : p.tmod 10000 < 0
  all_goals
    go_enter Tryz.func132, Tryz.ntmps132
    go_wp2
    all_goals
      go_ret
      exact ⟨ret_int (by unfold fl; split <;> first | rfl | omega), rfl⟩
set_option maxHeartbeats 400000 in
theorem m9part_any (a b : Int) (up : Bool) (w : World) :
    Calls Tryz.prog 102 #[.int .i64 a, .int .i64 b, .bool up] w fun e w' => Two e (part1 a b up) (part2 a b up) ∧ w = w' := by
  cases ha : rt a
  · have r1 : part1 a b up = 0 := by simp [part1, ha]
    have r2 : part2 a b up = 10 := by simp [part2, ha]
    rw [r1, r2]; clear r1 r2
    go_enter Tryz.func102, Tryz.ntmps102
    go_wp2_with (first | (go_at_call 129; refine (m9right_any _ _).mono ?_; rintro e w' ⟨rfl, rfl⟩) | (go_at_call 131; refine (m9within_any _ _ _ _).mono ?_; rintro e w' ⟨rfl, rfl⟩))
    go_ret2
    exact ⟨rfl, rfl⟩
  · cases hb : wtM b (-100000) 100000
    · have r1 : part1 a b up = 0 := by simp [part1, hb]
      have r2 : part2 a b up = 10 := by simp [part2, hb]
      rw [r1, r2]; clear r1 r2
      go_enter Tryz.func102, Tryz.ntmps102
      go_wp2_with (first | (go_at_call 129; refine (m9right_any _ _).mono ?_; rintro e w' ⟨rfl, rfl⟩) | (go_at_call 131; refine (m9within_any _ _ _ _).mono ?_; rintro e w' ⟨rfl, rfl⟩))
      go_ret2
      exact ⟨rfl, rfl⟩
    · obtain ⟨a1, a2⟩ := m9rt_iff.1 ha
      obtain ⟨b1, b2⟩ := of_decide_eq_true hb
      obtain ⟨p1, p2⟩ : -100000000000000000 ≤ a * b ∧ a * b ≤ 100000000000000000 := m9prod_bd a1 a2 b1 b2
      have f1 := @m9fl_lt (a * b)
      have f2 := @m9fl_lt (-(a * b))
      obtain ⟨g1, g2⟩ : -100000000000000 ≤ fl (-(a * b)) ∧ fl (-(a * b)) ≤ 100000000000000 := by omega
      clear f1 f2
      cases up
      · have r1 : part1 a b false = told1 (fl (a * b)) := by simp [part1, ha, hb, prt]
        have r2 : part2 a b false = told2 (fl (a * b)) := by simp [part2, ha, hb, prt]
        rw [r1, r2]; clear r1 r2
        go_enter Tryz.func102, Tryz.ntmps102
        go_wp2_with (first | (go_at_call 129; refine (m9right_any _ _).mono ?_; rintro e w' ⟨rfl, rfl⟩) | (go_at_call 131; refine (m9within_any _ _ _ _).mono ?_; rintro e w' ⟨rfl, rfl⟩) | (go_at_call 132; refine (m9floor_any (a * b) (by omega) (by omega) w).mono ?_; rintro e w' ⟨rfl, rfl⟩) | (go_at_call 130; refine (m9checked_any _ _).mono ?_; rintro e w' ⟨rfl, rfl⟩))
        go_ret2
        exact ⟨rfl, rfl⟩
      · have r1 : part1 a b true = told1 (-(fl (-(a * b)))) := by simp [part1, ha, hb, prt]
        have r2 : part2 a b true = told2 (-(fl (-(a * b)))) := by simp [part2, ha, hb, prt]
        rw [r1, r2]; clear r1 r2
        go_enter Tryz.func102, Tryz.ntmps102
        go_wp2_with (first | (go_at_call 129; refine (m9right_any _ _).mono ?_; rintro e w' ⟨rfl, rfl⟩) | (go_at_call 131; refine (m9within_any _ _ _ _).mono ?_; rintro e w' ⟨rfl, rfl⟩) | (go_at_call 132; refine (m9floor_any (-(a * b)) (by omega) (by omega) w).mono ?_; rintro e w' ⟨rfl, rfl⟩) | (go_at_call 130; refine (m9checked_any _ _).mono ?_; rintro e w' ⟨rfl, rfl⟩))
        go_ret2
        exact ⟨rfl, rfl⟩
end Go.Proofs.YtcckemhelockaaaGreatDoor

namespace Go.Proofs.YtcckemhelockaaaGreatDoor
open Go.RowKit Go.Lib
set_option linter.unusedVariables false
set_option linter.unusedSimpArgs false
theorem ltake_nil (b D : Nat) (ov : Value) (nx st : Int) (w0 w : World) (hr : Rel w0 w) (h : Mh w w0.heap.size D b ov nx st []) :
    Calls Tryz.prog 117 #[.pointer (some ⟨b, 0, none⟩)] w fun r w' => r = .returned (.tuple #[.agg #[.int .i64 0, .bool false], .int .i64 100]) ∧ Rel w w' := ltake_none b D ov nx st w0 w hr h
theorem ltake_as (b D : Nat) (ov : Value) (nx st : Int) (S : List Ce) (t : Ce) (p : Int) (q : Bool) (hv : Hid (CV1 t = .agg #[.int .i64 p, .bool q])) (w0 w : World) (hr : Rel w0 w) (h : Mh w w0.heap.size D b ov nx st (S ++ [t])) :
    Calls Tryz.prog 117 #[.pointer (some ⟨b, 0, none⟩)] w fun r w' => r = .returned (.tuple #[.agg #[.int .i64 p, .bool q], .int .i64 0]) ∧ Mh w' w0.heap.size D b ov nx st S ∧ Rel w0 w' ∧ Kt b w w' := by
  rw [← hv.out]; exact ltake_some b D ov nx st S t w0 w hr h
theorem take_last' {S T R : List Ce} {t : Ce} {er : Int} {F : Ms → Ce → Ms} (hm : Hid (F (takeM (R ++ [t], 0)).2 (takeM (R ++ [t], 0)).1 = (T, er))) : F (R, 0) t = (T, er) := by
  have e := hm.out
  rw [take_last] at e
  exact e
set_option maxRecDepth 100000 in
set_option maxHeartbeats 4000000 in
theorem lchange_any (fn : FuncId) (hfn : ∀ (args : Array Value) (w : World), (callFunc fn args).run Tryz.prog w = .ok (.enter fn args) w) (g : Nat) (cs : Array Value) (f : Int → Rs) (P E : Int → Int) (hPE : ∀ v, (E v = 0 ∧ f v = .ok (some (P v))) ∨ (E v ≠ 0 ∧ f v = .error (E v)))
    (HF : ∀ (v : Int) (w : World), Bk w g 45 cs → Calls Tryz.prog fn #[.int .i64 v, .pointer (some ⟨g, 0, none⟩)] w fun r w' => r = .returned (.tuple #[.int .i64 (P v), .int .i64 (E v)]) ∧ w = w')
    (b D : Nat) (ov : Value) (nx st : Int) (S T : List Ce) (er : Int) (hm : Hid (minusM (takeM (S, 0)).2 (takeM (S, 0)).1 f = (T, er))) (w0 w : World) (hr : Rel w0 w) (h : Mh w w0.heap.size D b ov nx st S) (hg : Bk w g 45 cs) (hgb : g ≠ b) :
    Calls Tryz.prog 111 #[.pointer (some ⟨b, 0, none⟩), .func (.func fn) #[] #[.pointer (some ⟨g, 0, none⟩)]] w (LP w0 b ov nx st w T er) := by
  have HR := Lib.hid hr
  have HG := Lib.hid hg
  clear hr hg
  rcases stack_ways S with rfl | ⟨R, t, rfl⟩
  · have HM := Lib.hid h
    have hm := hm.out
    rw [take_none] at hm
    have e0 : minusM (([] : List Ce), (100 : Int)) none f = ([], 100) := put_err (s := ([], 100)) (by decide) none
    rw [show minusM (none, (([] : List Ce), (100 : Int))).2 ((none : Ce), (([] : List Ce), (100 : Int))).1 f = ([], 100) from e0] at hm
    injection hm with e1 e2
    subst e1 e2
    clear h
    go_enter Tryz.func111, Tryz.ntmps111
    go_wp2_with (go_at_call 117; (with_reducible refine (ltake_nil b D ov nx st w0 w HR.out HM.out).mono ?_); rintro e w1 ⟨rfl, h1⟩; have R1 := Lib.hid h1)
    go_ret
    exact LP.same HR.out HM.out (R1.out.alloc _) rfl (by decide)
  · have HM := Lib.hid h
    have hm := take_last' (S := R) (F := fun s c => minusM s c f) hm
    clear h
    cases t with
    | none =>
      have HP := Lib.hid (show putM (R, 0) none = (T, er) from hm)
      clear hm
      go_enter Tryz.func111, Tryz.ntmps111
      go_wp2_with (first
        | (go_at_call 117; (with_reducible refine (ltake_as b D ov nx st R none 0 false (Lib.hid rfl) w0 w HR.out HM.out).mono ?_); rintro e w1 ⟨rfl, m1, r1, k1⟩; have R1 := Lib.hid r1; have M1 := Lib.hid m1; have K1 := Lib.hid k1; clear r1 m1 k1)
        | (go_at_call 118; (with_reducible refine (lput_as b D ov nx st R T er none 0 false (Lib.hid rfl) HP w0 _ (R1.out.alloc _) (M1.out.rel (R1.out.self.alloc _))).mono ?_); rintro e w3 ⟨rfl, h3⟩))
      go_ret
      exact LP.back (Kr.trans (Kt.kr K1.out) (Kr.rel (R1.out.self.alloc _))) h3 rfl
    | some v =>
      have hf := hPE v
      have HFv := Lib.hid (HF v)
      generalize P v = p at *
      generalize E v = q at *
      clear HF
      rcases hf with ⟨rfl, hf⟩ | ⟨hq, hf⟩
      · have HP := Lib.hid (show putM (R, 0) (some p) = (T, er) by rw [← hm]; exact (minus_ok hf).symm)
        clear hm hf
        go_enter Tryz.func111, Tryz.ntmps111
        go_wp2_with (first
          | (go_at_call 117; (with_reducible refine (ltake_as b D ov nx st R (some v) v true (Lib.hid rfl) w0 w HR.out HM.out).mono ?_); rintro e w1 ⟨rfl, m1, r1, k1⟩; have R1 := Lib.hid r1; have M1 := Lib.hid m1; have K1 := Lib.hid k1; clear r1 m1 k1)
          | (go_at_call 118; (with_reducible refine (lput_as b D ov nx st R T er (some p) p true (Lib.hid rfl) HP w0 _ (R1.out.alloc _) (M1.out.rel (R1.out.self.alloc _))).mono ?_); rintro e w3 ⟨rfl, h3⟩)
          | ((with_reducible refine (HFv.out _ ((K1.out.bk HG.out hgb).alloc _)).mono ?_); rintro e w2 ⟨rfl, rfl⟩))
        go_ret
        exact LP.back (Kr.trans (Kt.kr K1.out) (Kr.rel (R1.out.self.alloc _))) h3 rfl
      · have hqb : (q == 0) = false := by simpa using hq
        have hqn : (q != 0) = true := by simpa using hq
        have HP := Lib.hid (show (R, q) = (T, er) by rw [← hm]; exact (minus_bad hf).symm)
        clear hm hf
        go_enter Tryz.func111, Tryz.ntmps111
        go_wp2_with (first
          | (go_at_call 117; (with_reducible refine (ltake_as b D ov nx st R (some v) v true (Lib.hid rfl) w0 w HR.out HM.out).mono ?_); rintro e w1 ⟨rfl, m1, r1, k1⟩; have R1 := Lib.hid r1; have M1 := Lib.hid m1; have K1 := Lib.hid k1; clear r1 m1 k1)
          | ((with_reducible refine (HFv.out _ ((K1.out.bk HG.out hgb).alloc _)).mono ?_); rintro e w2 ⟨rfl, rfl⟩))
        go_ret
        have e0 := HP.out
        injection e0 with e1 e2
        subst e1 e2
        exact ⟨rfl, R1.out.alloc _, Kr.trans (Kt.kr K1.out) (Kr.rel (R1.out.self.alloc _)), D, _, M1.out.rel (R1.out.self.alloc _), fun _ => rfl⟩
theorem sub_ways (n v : Int) : (two2 v n (v - n) = 0 ∧ subR v n = .ok (some (two1 v n (v - n)))) ∨ (two2 v n (v - n) ≠ 0 ∧ subR v n = .error (two2 v n (v - n))) := by
  unfold subR
  by_cases h : two2 v n (v - n) = 0
  · exact .inl ⟨h, by rw [if_pos h]⟩
  · exact .inr ⟨h, by rw [if_neg h]⟩
def cutP (n v : Int) : Int := if part2 v n false = 0 then two1 v (part1 v n false) (v - part1 v n false) else 0
def cutE (n v : Int) : Int := if part2 v n false = 0 then two2 v (part1 v n false) (v - part1 v n false) else part2 v n false
theorem cut_ways (n v : Int) : (cutE n v = 0 ∧ cutR v n = .ok (some (cutP n v))) ∨ (cutE n v ≠ 0 ∧ cutR v n = .error (cutE n v)) := by
  unfold cutR cutE cutP
  by_cases h : part2 v n false = 0
  · rw [if_pos h, if_pos h, if_pos h]; exact sub_ways _ _
  · rw [if_neg h, if_neg h, if_neg h]; exact .inr ⟨h, rfl⟩
set_option maxRecDepth 100000 in
set_option maxHeartbeats 4000000 in
theorem lless1_any (g : Nat) (o n : Int) (s : ByteArray) (v : Int) (w : World) (hg : Bk w g 45 #[.int .i64 o, .int .i64 n, .string s]) :
    Calls Tryz.prog 112 #[.int .i64 v, .pointer (some ⟨g, 0, none⟩)] w fun r w' => r = .returned (.tuple #[.int .i64 (two1 v n (v - n)), .int .i64 (two2 v n (v - n))]) ∧ w = w' := by
  have HS := Lib.hid (m9sub_any v n w)
  generalize two1 v n (v - n) = p1 at *
  generalize two2 v n (v - n) = p2 at *
  unfold Two at HS
  obtain ⟨⟨x0, x1, x2⟩, _⟩ := three_of hg
  clear hg
  go_enter Tryz.func112, Tryz.ntmps112
  go_wp2_with (go_at_call 101; (with_reducible refine HS.out.mono ?_); rintro e w1 ⟨rfl, rfl⟩)
  go_ret2
  exact ⟨rfl, rfl⟩
set_option maxRecDepth 100000 in
set_option maxHeartbeats 4000000 in
theorem lcut1_any (g : Nat) (o n : Int) (s : ByteArray) (v : Int) (w : World) (hg : Bk w g 45 #[.int .i64 o, .int .i64 n, .string s]) :
    Calls Tryz.prog 113 #[.int .i64 v, .pointer (some ⟨g, 0, none⟩)] w fun r w' => r = .returned (.tuple #[.int .i64 (cutP n v), .int .i64 (cutE n v)]) ∧ w = w' := by
  have HP := Lib.hid (m9part_any v n false w)
  unfold cutP cutE
  generalize part1 v n false = p1 at *
  obtain ⟨⟨x0, x1, x2⟩, _⟩ := three_of hg
  clear hg
  by_cases h : part2 v n false = 0
  · rw [if_pos h, if_pos h]
    rw [h] at HP
    have HS := Lib.hid (m9sub_any v p1 w)
    generalize two1 v p1 (v - p1) = t1 at *
    generalize two2 v p1 (v - p1) = t2 at *
    unfold Two at HS HP
    clear h
    go_enter Tryz.func113, Tryz.ntmps113
    go_wp2_with (first
      | (go_at_call 102; (with_reducible refine HP.out.mono ?_); rintro e w1 ⟨rfl, rfl⟩)
      | (go_at_call 101; (with_reducible refine HS.out.mono ?_); rintro e w1 ⟨rfl, rfl⟩))
    go_ret2
    exact ⟨rfl, rfl⟩
  · rw [if_neg h, if_neg h]
    generalize part2 v n false = p2 at *
    have hb : (p2 == 0) = false := by simpa using h
    have hn : (p2 != 0) = true := by simpa using h
    unfold Two at HP
    go_enter Tryz.func113, Tryz.ntmps113
    go_wp2_with (go_at_call 102; (with_reducible refine HP.out.mono ?_); rintro e w1 ⟨rfl, rfl⟩)
    go_ret2
    exact ⟨rfl, rfl⟩
set_option maxRecDepth 100000 in
set_option maxHeartbeats 4000000 in
theorem lless_any (b D : Nat) (ov : Value) (nx st : Int) (S T : List Ce) (er : Int) (o n : Int) (s : ByteArray) (hm : Hid (minusM (takeM (S, 0)).2 (takeM (S, 0)).1 (fun v => subR v n) = (T, er))) (w0 w : World) (hr : Rel w0 w) (h : Mh w w0.heap.size D b ov nx st S) :
    Calls Tryz.prog 77 #[.pointer (some ⟨b, 0, none⟩), .agg #[.int .i64 o, .int .i64 n, .string s]] w (LP w0 b ov nx st w T er) := by
  have hmf : ∀ (fn : Fn) (first cap : Array Value) (w : World), (Instr.makeFunc fn first cap).run Tryz.prog w = .ok (.func fn first cap) w := fun _ _ _ _ => rfl
  have hlt := h.lt
  have HA := Lib.hid (hr.self.alloc (.cells #[.int .i64 o, .int .i64 n, .string s] 45))
  have HX := Lib.hid (Bk.new w 45 #[.int .i64 o, .int .i64 n, .string s])
  have HC := Lib.hid (lchange_any 112 (fun _ _ => rfl) w.heap.size #[.int .i64 o, .int .i64 n, .string s] (fun v => subR v n) (fun v => two1 v n (v - n)) (fun v => two2 v n (v - n)) (sub_ways n) (fun v w' hg => lless1_any w.heap.size o n s v w' hg) b D ov nx st S T er hm w0 _ (hr.trans HA.out) (h.rel HA.out) HX.out (by omega))
  obtain ⟨W, hW⟩ : ∃ W, w.alloc (.cells #[.int .i64 o, .int .i64 n, .string s] 45) = W := ⟨_, rfl⟩
  rw [hW] at HA HC
  clear hr h HX
  go_enter Tryz.func77, Tryz.ntmps77
  go_wp2_with (go_at_call 111; (with_reducible refine HC.out.mono ?_); rintro e w1 ⟨rfl, h1⟩)
  go_ret
  exact LP.back (Kr.rel HA.out) h1 rfl
set_option maxRecDepth 100000 in
set_option maxHeartbeats 4000000 in
theorem lcutop_any (b D : Nat) (ov : Value) (nx st : Int) (S T : List Ce) (er : Int) (o n : Int) (s : ByteArray) (hm : Hid (minusM (takeM (S, 0)).2 (takeM (S, 0)).1 (fun v => cutR v n) = (T, er))) (w0 w : World) (hr : Rel w0 w) (h : Mh w w0.heap.size D b ov nx st S) :
    Calls Tryz.prog 78 #[.pointer (some ⟨b, 0, none⟩), .agg #[.int .i64 o, .int .i64 n, .string s]] w (LP w0 b ov nx st w T er) := by
  have hmf : ∀ (fn : Fn) (first cap : Array Value) (w : World), (Instr.makeFunc fn first cap).run Tryz.prog w = .ok (.func fn first cap) w := fun _ _ _ _ => rfl
  have hlt := h.lt
  have HA := Lib.hid (hr.self.alloc (.cells #[.int .i64 o, .int .i64 n, .string s] 45))
  have HX := Lib.hid (Bk.new w 45 #[.int .i64 o, .int .i64 n, .string s])
  have HC := Lib.hid (lchange_any 113 (fun _ _ => rfl) w.heap.size #[.int .i64 o, .int .i64 n, .string s] (fun v => cutR v n) (cutP n) (cutE n) (cut_ways n) (fun v w' hg => lcut1_any w.heap.size o n s v w' hg) b D ov nx st S T er hm w0 _ (hr.trans HA.out) (h.rel HA.out) HX.out (by omega))
  obtain ⟨W, hW⟩ : ∃ W, w.alloc (.cells #[.int .i64 o, .int .i64 n, .string s] 45) = W := ⟨_, rfl⟩
  rw [hW] at HA HC
  clear hr h HX
  go_enter Tryz.func78, Tryz.ntmps78
  go_wp2_with (go_at_call 111; (with_reducible refine HC.out.mono ?_); rintro e w1 ⟨rfl, h1⟩)
  go_ret
  exact LP.back (Kr.rel HA.out) h1 rfl
end Go.Proofs.YtcckemhelockaaaGreatDoor
