/- What is asked of the program, and the law's first calls. -/
import Derived.Test.YtlflfffjaodhpaaDoorTreeRight
import Derived.Test.YtlflfffjaodhpaaDoorTreeStrat
namespace Go.Proofs.YtlflfffjaodhpaaDoor
open Go.RowKit Go.Lib
set_option linter.unusedVariables false
set_option linter.unusedSimpArgs false

def PrintOk : Prop := ∀ (x : Ex) (S : Nat → Prop) (e : El) (w0 w : World), Rel w0 w → ExAt S w e x → size x ≤ 100000 → Calls Tryd.prog 12 #[EV e] w fun r w' => r = .returned (.tuple #[.string (B (prT x)), .int .i64 (prE x)]) ∧ Rel w0 w'
def RightOk : Prop := ∀ (x : Ex) (S : Nat → Prop) (e : El) (w0 w : World), Rel w0 w → ExAt S w e x → size x ≤ 100000 → Calls Tryd.prog 14 #[EV e] w fun r w' => r = .returned (.bool (rightX x)) ∧ Rel w0 w'
def SizeOk : Prop := ∀ (x : Ex) (S : Nat → Prop) (e : El) (w0 w : World), Rel w0 w → ExAt S w e x → size x ≤ 100000 → Calls Tryd.prog 16 #[EV e] w fun r w' => r = .returned (.int .i64 (size x : Int)) ∧ Rel w0 w'
def DeepOk : Prop := ∀ (x : Ex) (S : Nat → Prop) (e : El) (w0 w : World), Rel w0 w → ExAt S w e x → size x ≤ 100000 → Calls Tryd.prog 18 #[EV e] w fun r w' => r = .returned (.int .i64 (deep x : Int)) ∧ Rel w0 w'
def SameOk : Prop := ∀ (x y : Ex) (S S' : Nat → Prop) (e e' : El) (b : Bool) (w0 w : World), Rel w0 w → ExAt S w e x → ExAt S' w e' y → size x ≤ 100000 → size y ≤ 100000 → Hid (b = true ↔ x = y) → Calls Tryd.prog 20 #[EV e, EV e'] w fun r w' => r = .returned (.bool b) ∧ Rel w0 w'
/-- All that is asked of the program. -/
def TreeOk : Prop := PrintOk ∧ RightOk ∧ SizeOk ∧ DeepOk ∧ SameOk
theorem print_as (H : TreeOk) (x : Ex) (T : ByteArray) (n : Int) (hT : Hid (B (prT x) = T ∧ prE x = n)) (S : Nat → Prop) (e : El) (w0 w : World) (hr : Rel w0 w) (h : ExAt S w e x) (hz : size x ≤ 100000) :
    Calls Tryd.prog 12 #[EV e] w fun r w' => r = .returned (.tuple #[.string T, .int .i64 n]) ∧ Rel w0 w' := by rw [← hT.out.1, ← hT.out.2]; exact H.1 x S e w0 w hr h hz
theorem right_as (H : TreeOk) (x : Ex) (b : Bool) (hb : Hid (rightX x = b)) (S : Nat → Prop) (e : El) (w0 w : World) (hr : Rel w0 w) (h : ExAt S w e x) (hz : size x ≤ 100000) :
    Calls Tryd.prog 14 #[EV e] w fun r w' => r = .returned (.bool b) ∧ Rel w0 w' := by rw [← hb.out]; exact H.2.1 x S e w0 w hr h hz
theorem size_as (H : TreeOk) (x : Ex) (n : Int) (hn : Hid ((size x : Int) = n)) (S : Nat → Prop) (e : El) (w0 w : World) (hr : Rel w0 w) (h : ExAt S w e x) (hz : size x ≤ 100000) :
    Calls Tryd.prog 16 #[EV e] w fun r w' => r = .returned (.int .i64 n) ∧ Rel w0 w' := by rw [← hn.out]; exact H.2.2.1 x S e w0 w hr h hz
theorem deep_as (H : TreeOk) (x : Ex) (n : Int) (hn : Hid ((deep x : Int) = n)) (S : Nat → Prop) (e : El) (w0 w : World) (hr : Rel w0 w) (h : ExAt S w e x) (hz : size x ≤ 100000) :
    Calls Tryd.prog 18 #[EV e] w fun r w' => r = .returned (.int .i64 n) ∧ Rel w0 w' := by rw [← hn.out]; exact H.2.2.2.1 x S e w0 w hr h hz
theorem same_as (H : TreeOk) (x y : Ex) (b : Bool) (hb : Hid (b = true ↔ x = y)) (S S' : Nat → Prop) (e e' : El) (w0 w : World) (hr : Rel w0 w) (h : ExAt S w e x) (h' : ExAt S' w e' y) (hz : size x ≤ 100000) (hz' : size y ≤ 100000) :
    Calls Tryd.prog 20 #[EV e, EV e'] w fun r w' => r = .returned (.bool b) ∧ Rel w0 w' := H.2.2.2.2 x y S S' e e' b w0 w hr h h' hz hz' hb
theorem ExAt.one {S : Nat → Prop} {w : World} {k n : Int} {nm : List UInt8} {g c : Nat} {a : El} {x : Ex} (hk : i64 k) (hn : i64 n) (hm : nm.length ≤ 100) (h : Bk w g 26 (cellsEs [a]).toArray) (hS : S g) (hx : ExAt S w a x) :
    ExAt S w (k, n, nm, some ⟨g, 0, none⟩, 1, c) (.mk k n nm [x]) :=
  .mk k n nm _ c [x] [a] hk hn hm rfl (RowE.of_bk h hS) fun i h h' => by
    match i, h, h' with
    | 0, _, _ => exact hx
def exLow : Ex := .mk 1 0 [] []
def exX : Ex := .mk 9 0 [] [.mk 5 1 [] [exLow], .mk 4 999 [] []]
def exTxt : List UInt8 := [101, 108, 115, 101, 40, 108, 101, 115, 115, 40, 108, 111, 119, 101, 115, 116, 44, 32, 48, 46, 48, 49, 41, 44, 32, 57, 46, 57, 57, 41]
theorem txt_small (a b c : Nat) (ha : a < 10) (hb : b < 10) (hc : c < 10) : txt ((a * 100 + b * 10 + c : Nat) : Int) = [UInt8.ofNat (48 + a), 46, UInt8.ofNat (48 + b), UInt8.ofNat (48 + c)] := by
  rw [txt_pos (by omega) (by omega)]
  unfold pos
  rw [show ((a * 100 + b * 10 + c : Nat) : Int).toNat / 100 = a by omega, show ((a * 100 + b * 10 + c : Nat) : Int).toNat / 10 % 10 = b by omega, show ((a * 100 + b * 10 + c : Nat) : Int).toNat % 10 = c by omega, dd_one _ ha, dd_one _ hb, dd_one _ hc]
  rfl
theorem exX_text : text exX = exTxt := by
  have e1 : txt 1 = [48, 46, 48, 49] := txt_small 0 0 1 (by omega) (by omega) (by omega)
  have e2 : txt 999 = [57, 46, 57, 57] := txt_small 9 9 9 (by omega) (by omega) (by omega)
  unfold exX exLow
  simp only [text_mk, texts_cons, texts_nil, mores_cons, mores_nil, tailK, e1, e2]
  decide
theorem exX_size : size exX = 4 := by unfold exX exLow; simp only [size_mk, sizes_cons, sizes_nil]
theorem exX_deep : deep exX = 3 := by unfold exX exLow; simp only [deep_mk, deeps_cons, deeps_nil]; decide
theorem exX_right : rightX exX = true := by
  unfold rightX
  rw [exX_text, exX_size]
  decide
theorem exX_print : prT exX = exTxt ∧ prE exX = 0 := by
  unfold prT prE; rw [exX_right, exX_text]; exact ⟨rfl, rfl⟩
theorem more_print : prT (.mk 11 0 [] []) = [] ∧ prE (.mk 11 0 [] []) = 1 := by
  have : rightX (.mk 11 0 [] []) = false := by unfold rightX; rw [show isCond (Ex.mk 11 0 [] []).k = true from rfl]; simp
  unfold prT prE; rw [this]; exact ⟨rfl, rfl⟩
theorem none_right : rightX (.mk 0 0 [] []) = false := by
  have : fine 32 (.mk 0 0 [] []) = false := by decide
  unfold rightX; rw [this]; simp
theorem low_ne : exX ≠ exLow := fun h => by unfold exX exLow at h; injection h with h; cases h
theorem arg1 {f : FuncId} {v v' : Value} {w : World} {Q : Ending → World → Prop} (hv : Hid (v = v')) (h : Calls Tryd.prog f #[v] w Q) : Calls Tryd.prog f #[v'] w Q := by rw [← hv.out]; exact h
theorem arg2 {f : FuncId} {v v' u u' : Value} {w : World} {Q : Ending → World → Prop} (hv : Hid (v = v')) (hu : Hid (u = u')) (h : Calls Tryd.prog f #[v, u] w Q) : Calls Tryd.prog f #[v', u'] w Q := by rw [← hv.out, ← hu.out]; exact h
theorem same_yes (H : TreeOk) (x : Ex) (S S' : Nat → Prop) (e e' : El) (w0 w : World) (hr : Rel w0 w) (h : ExAt S w e x) (h' : ExAt S' w e' x) (hz : size x ≤ 100000) :
    Calls Tryd.prog 20 #[EV e, EV e'] w fun r w' => r = .returned (.bool true) ∧ Rel w0 w' := same_as H x x true (Lib.hid ⟨fun _ => rfl, fun _ => rfl⟩) S S' e e' w0 w hr h h' hz hz
theorem same_not (H : TreeOk) (x y : Ex) (hn : Hid (x ≠ y)) (S S' : Nat → Prop) (e e' : El) (w0 w : World) (hr : Rel w0 w) (h : ExAt S w e x) (h' : ExAt S' w e' y) (hz : size x ≤ 100000) (hz' : size y ≤ 100000) :
    Calls Tryd.prog 20 #[EV e, EV e'] w fun r w' => r = .returned (.bool false) ∧ Rel w0 w' := same_as H x y false (Lib.hid ⟨(fun h => by cases h), fun h => absurd h hn.out⟩) S S' e e' w0 w hr h h' hz hz'
theorem leaf11 (w : World) : ExAt (fun _ => True) w (11, 0, [], none, 0, 0) (.mk 11 0 [] []) := ExAt.leaf _ _ 11 0 [] none 0 ⟨by decide, by decide⟩ ⟨by decide, by decide⟩ (Nat.zero_le _)
theorem leaf0 (w : World) : ExAt (fun _ => True) w (0, 0, [], none, 0, 0) (.mk 0 0 [] []) := ExAt.leaf _ _ 0 0 [] none 0 ⟨by decide, by decide⟩ ⟨by decide, by decide⟩ (Nat.zero_le _)
/-- The blocks that awake makes. -/
theorem awake_world (w : World) : ∃ W : World, W = (((w.alloc (.cells #[.int .i64 1, .int .i64 0, .string ⟨#[]⟩, .slice none 0 0] 26)).alloc (.cells #[.int .i64 1, .int .i64 0, .string ⟨#[]⟩, .slice none 0 0] 26)).alloc
    (.cells #[.int .i64 5, .int .i64 1, .string ⟨#[]⟩, .slice (some ⟨w.heap.size + 1, 0, none⟩) 1 1, .int .i64 4, .int .i64 999, .string ⟨#[]⟩, .slice none 0 0] 26)).alloc (.cells #[.int .i64 9, .int .i64 0, .string ⟨#[]⟩, .slice (some ⟨w.heap.size + 2, 0, none⟩) 2 2] 26) ∧
    Bk W w.heap.size 26 #[.int .i64 1, .int .i64 0, .string ⟨#[]⟩, .slice none 0 0] ∧ Bk W (w.heap.size + 3) 26 #[.int .i64 9, .int .i64 0, .string ⟨#[]⟩, .slice (some ⟨w.heap.size + 2, 0, none⟩) 2 2] ∧
    ExAt (fun _ => True) W (9, 0, [], some ⟨w.heap.size + 2, 0, none⟩, 2, 2) exX ∧ ExAt (fun _ => True) W (1, 0, [], none, 0, 0) exLow := by
  refine ⟨_, rfl, ?_, ?_, ?_, ?_⟩
  · exact (((Bk.new w _ _).alloc _).alloc _).alloc _
  · have := Bk.new (((w.alloc (.cells #[.int .i64 1, .int .i64 0, .string ⟨#[]⟩, .slice none 0 0] 26)).alloc (.cells #[.int .i64 1, .int .i64 0, .string ⟨#[]⟩, .slice none 0 0] 26)).alloc
      (.cells #[.int .i64 5, .int .i64 1, .string ⟨#[]⟩, .slice (some ⟨w.heap.size + 1, 0, none⟩) 1 1, .int .i64 4, .int .i64 999, .string ⟨#[]⟩, .slice none 0 0] 26)) 26 #[.int .i64 9, .int .i64 0, .string ⟨#[]⟩, .slice (some ⟨w.heap.size + 2, 0, none⟩) 2 2]
    simp only [World.size_alloc] at this
    exact this
  · have b2 := Bk.new ((w.alloc (.cells #[.int .i64 1, .int .i64 0, .string ⟨#[]⟩, .slice none 0 0] 26)).alloc (.cells #[.int .i64 1, .int .i64 0, .string ⟨#[]⟩, .slice none 0 0] 26)) 26
      #[.int .i64 5, .int .i64 1, .string ⟨#[]⟩, .slice (some ⟨w.heap.size + 1, 0, none⟩) 1 1, .int .i64 4, .int .i64 999, .string ⟨#[]⟩, .slice none 0 0]
    simp only [World.size_alloc] at b2
    have b1 := Bk.snd w #[.int .i64 1, .int .i64 0, .string ⟨#[]⟩, .slice none 0 0] #[.int .i64 1, .int .i64 0, .string ⟨#[]⟩, .slice none 0 0] 26 26
    refine ExAt.two (a := (5, 1, [], some ⟨w.heap.size + 1, 0, none⟩, 1, 1)) (b := (4, 999, [], none, 0, 0)) ⟨by decide, by decide⟩ ⟨by decide, by decide⟩ (Nat.zero_le _) (b2.alloc _) trivial ?_ (ExAt.leaf _ _ 4 999 [] none 0 ⟨by decide, by decide⟩ ⟨by decide, by decide⟩ (Nat.zero_le _))
    exact ExAt.one (a := (1, 0, [], none, 0, 0)) ⟨by decide, by decide⟩ ⟨by decide, by decide⟩ (Nat.zero_le _) ((b1.alloc _).alloc _) trivial (ExAt.leaf _ _ 1 0 [] none 0 ⟨by decide, by decide⟩ ⟨by decide, by decide⟩ (Nat.zero_le _))
  · exact ExAt.leaf _ _ 1 0 [] none 0 ⟨by decide, by decide⟩ ⟨by decide, by decide⟩ (Nat.zero_le _)
set_option maxRecDepth 100000 in
set_option maxHeartbeats 8000000 in
theorem awake7_any (H : TreeOk) (w0 w : World) (hr : Rel w0 w) :
    Calls Tryd.prog 9 #[] w fun e w' => e = .returned (.bool true) ∧ Rel w0 w' := by
  have H := Lib.hid H
  have HR := Lib.hid hr
  obtain ⟨W, hW, hb0, hb3, hx, hlow⟩ := awake_world w
  have hA : Rel w W := by rw [hW]; exact (((hr.self.alloc _).alloc _).alloc _).alloc _
  have HA := Lib.hid hA
  have HB0 := Lib.hid hb0
  have HB3 := Lib.hid hb3
  have HX := Lib.hid hx
  have HL := Lib.hid hlow
  obtain ⟨⟨c0, c1, c2, c3⟩, _⟩ := hb3.four
  have P1 : Hid (B (prT exX) = ⟨exTxt.toArray⟩ ∧ prE exX = 0) := Lib.hid ⟨by rw [exX_print.1]; rfl, exX_print.2⟩
  have P2 : Hid (B (prT (.mk 11 0 [] [])) = ⟨#[]⟩ ∧ prE (.mk 11 0 [] []) = 1) := Lib.hid ⟨by rw [more_print.1]; rfl, more_print.2⟩
  have Z1 : size exX ≤ 100000 := by rw [exX_size]; omega
  have Z2 : size exLow ≤ 100000 := by unfold exLow; rw [size_mk, sizes_nil]; omega
  have Q1 : Hid ((size exX : Int) = 4) := Lib.hid (by rw [exX_size]; rfl)
  have Q2 : Hid ((deep exX : Int) = 3) := Lib.hid (by rw [exX_deep]; rfl)
  have Q4 : Hid (exX ≠ exLow) := Lib.hid low_ne
  have Q5 : Hid (rightX exX = true) := Lib.hid exX_right
  have Q6 : Hid (rightX (.mk 0 0 [] []) = false) := Lib.hid none_right
  have Z3 : size (.mk 11 0 [] []) ≤ 100000 := by rw [size_mk, sizes_nil]; omega
  have Z4 : size (.mk 0 0 [] []) ≤ 100000 := by rw [size_mk, sizes_nil]; omega
  have V9 : Hid (EV (9, 0, [], some ⟨w.heap.size + 2, 0, none⟩, 2, 2) = .agg #[.int .i64 9, .int .i64 0, .string ⟨#[]⟩, .slice (some ⟨w.heap.size + 2, 0, none⟩) 2 2]) := Lib.hid rfl
  have V1 : Hid (EV (1, 0, [], none, 0, 0) = .agg #[.int .i64 1, .int .i64 0, .string ⟨#[]⟩, .slice none 0 0]) := Lib.hid rfl
  have V11 : Hid (EV (11, 0, [], none, 0, 0) = .agg #[.int .i64 11, .int .i64 0, .string ⟨#[]⟩, .slice none 0 0]) := Lib.hid rfl
  have V0 : Hid (EV (0, 0, [], none, 0, 0) = .agg #[.int .i64 0, .int .i64 0, .string ⟨#[]⟩, .slice none 0 0]) := Lib.hid rfl
  have HW := Lib.hid hW
  clear hW hA hb0 hb3 hx hlow
  go_enter Tryd.func9, Tryd.ntmps9
  go_upto_region 3 with (fail)
  simp only [Nat.add_assoc, Nat.reduceAdd]
  rw [← HW.out]
  have RW := HR.out.trans HA.out
  have HRW := Lib.hid RW
  clear RW
  go_wp2_with (first
    | (go_at_call 12; (with_reducible refine (arg1 V9 (print_as H.out exX ⟨exTxt.toArray⟩ 0 P1 (fun _ => True) (9, 0, [], some ⟨w.heap.size + 2, 0, none⟩, 2, 2) _ _ HRW.out.self HX.out Z1)).mono ?_); rintro e w1 ⟨rfl, h1⟩)
    | (go_at_call 12; (with_reducible refine (arg1 V11 (print_as H.out (.mk 11 0 [] []) ⟨#[]⟩ 1 P2 (fun _ => True) (11, 0, [], none, 0, 0) _ _ h1.self (leaf11 _) Z3)).mono ?_); rintro e w2 ⟨rfl, h2⟩; have R2 := h1.trans h2; obtain ⟨⟨d0, d1, d2, d3⟩, _⟩ := (HB3.out.rel R2).four)
    | (go_at_call 16; (with_reducible refine (arg1 V9 (size_as H.out exX 4 Q1 (fun _ => True) (9, 0, [], some ⟨w.heap.size + 2, 0, none⟩, 2, 2) _ _ h2.self (HX.out.rel R2) Z1)).mono ?_); rintro e w3 ⟨rfl, h3⟩; have R3 := R2.trans h3; obtain ⟨⟨d0, d1, d2, d3⟩, _⟩ := (HB3.out.rel R3).four)
    | (go_at_call 18; (with_reducible refine (arg1 V9 (deep_as H.out exX 3 Q2 (fun _ => True) (9, 0, [], some ⟨w.heap.size + 2, 0, none⟩, 2, 2) _ _ h3.self (HX.out.rel R3) Z1)).mono ?_); rintro e w4 ⟨rfl, h4⟩; have R4 := R3.trans h4; obtain ⟨⟨d0, d1, d2, d3⟩, _⟩ := (HB3.out.rel R4).four)
    | (go_at_call 20; (with_reducible refine (arg2 V9 V9 (same_yes H.out exX (fun _ => True) (fun _ => True) (9, 0, [], some ⟨w.heap.size + 2, 0, none⟩, 2, 2) (9, 0, [], some ⟨w.heap.size + 2, 0, none⟩, 2, 2) _ _ h4.self (HX.out.rel R4) (HX.out.rel R4) Z1)).mono ?_); rintro e w5 ⟨rfl, h5⟩; have R5 := R4.trans h5; obtain ⟨⟨d0, d1, d2, d3⟩, _⟩ := (HB3.out.rel R5).four; obtain ⟨⟨x0, x1, x2, x3⟩, _⟩ := (HB0.out.rel R5).four)
    | (go_at_call 20; (with_reducible refine (arg2 V9 V1 (same_not H.out exX exLow Q4 (fun _ => True) (fun _ => True) (9, 0, [], some ⟨w.heap.size + 2, 0, none⟩, 2, 2) (1, 0, [], none, 0, 0) _ _ h5.self (HX.out.rel R5) (HL.out.rel R5) Z1 Z2)).mono ?_); rintro e w6 ⟨rfl, h6⟩; have R6 := R5.trans h6; obtain ⟨⟨d0, d1, d2, d3⟩, _⟩ := (HB3.out.rel R6).four)
    | (go_at_call 14; (with_reducible refine (arg1 V9 (right_as H.out exX true Q5 (fun _ => True) (9, 0, [], some ⟨w.heap.size + 2, 0, none⟩, 2, 2) _ _ h6.self (HX.out.rel R6) Z1)).mono ?_); rintro e w7 ⟨rfl, h7⟩)
    | (go_at_call 14; (with_reducible refine (arg1 V0 (right_as H.out (.mk 0 0 [] []) false Q6 (fun _ => True) (0, 0, [], none, 0, 0) _ _ h7.self (leaf0 _) Z4)).mono ?_); rintro e w8 ⟨rfl, h8⟩))
  go_ret
  exact ⟨rfl, ((HRW.out.trans R6).trans h7).trans h8⟩
end Go.Proofs.YtlflfffjaodhpaaDoor
