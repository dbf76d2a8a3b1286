/- What is asked of the program, and the law's first calls; What the laws of layer 10 lean on: what the program is asked, and the law's awake; CodeSize, over what the program is asked. -/
import Derived.Test.YtldopbkjchgcnaaDoorZ16
import Derived.Test.YtldopbkjchgcnaaDoorZ06
import Derived.Test.YtldopbkjchgcnaaDoorZ18
namespace Go.Proofs.YtldopbkjchgcnaaDoor
open Go.RowKit Go.Lib
set_option linter.unusedVariables false
set_option linter.unusedSimpArgs false

def PrintOk : Prop := ∀ (x : Ex) (S : Nat → Prop) (e : El) (w0 w : World), Rel w0 w → ExAt S w e x → size x ≤ 100000 → Calls Tryd.prog 38 #[EV e] w fun r w' => r = .returned (.tuple #[.string (B (prT x)), .int .i64 (prE x)]) ∧ Rel w0 w'
def RightOk : Prop := ∀ (x : Ex) (S : Nat → Prop) (e : El) (w0 w : World), Rel w0 w → ExAt S w e x → size x ≤ 100000 → Calls Tryd.prog 18 #[EV e] w fun r w' => r = .returned (.bool (rightX x)) ∧ Rel w0 w'
def SizeOk : Prop := ∀ (x : Ex) (S : Nat → Prop) (e : El) (w0 w : World), Rel w0 w → ExAt S w e x → size x ≤ 100000 → Calls Tryd.prog 19 #[EV e] w fun r w' => r = .returned (.int .i64 (size x : Int)) ∧ Rel w0 w'
theorem ExAt.one {S : Nat → Prop} {w : World} {k n : Int} {nm : List UInt8} {g c : Nat} {a : El} {x : Ex} (hk : i64 k) (hn : i64 n) (hm : nm.length ≤ 100) (h : Bk w g 27 (cellsEs [a]).toArray) (hS : S g) (hx : ExAt S w a x) :
    ExAt S w (k, n, nm, some ⟨g, 0, none⟩, 1, c) (.mk k n nm [x]) :=
  .mk k n nm _ c [x] [a] hk hn hm rfl (RowE.of_bk h hS) fun i h h' => by
    match i, h, h' with
    | 0, _, _ => exact hx
def exLow : Ex := .mk 1 0 [] []
def exX : Ex := .mk 9 0 [] [.mk 5 1 [] [exLow], .mk 4 999 [] []]
def exTxt : List UInt8 := [101, 108, 115, 101, 40, 108, 101, 115, 115, 40, 108, 111, 119, 101, 115, 116, 44, 32, 48, 46, 48, 49, 41, 44, 32, 57, 46, 57, 57, 41]
theorem txt_small (a b c : Nat) (ha : a < 10) (hb : b < 10) (hc : c < 10) : txt ((a * 100 + b * 10 + c : Nat) : Int) = [UInt8.ofNat (48 + a), 46, UInt8.ofNat (48 + b), UInt8.ofNat (48 + c)] := by
  rw [txt_pos (by omega) (by omega)]
  unfold pos
  rw [show ((a * 100 + b * 10 + c : Nat) : Int).toNat / 100 = a by omega, show ((a * 100 + b * 10 + c : Nat) : Int).toNat / 10 % 10 = b by omega, show ((a * 100 + b * 10 + c : Nat) : Int).toNat % 10 = c by omega, dd_one _ ha, dd_one _ hb, dd_one _ hc]
  rfl
theorem exX_text : text exX = exTxt := by
  have e1 : txt 1 = [48, 46, 48, 49] := txt_small 0 0 1 (by omega) (by omega) (by omega)
  have e2 : txt 999 = [57, 46, 57, 57] := txt_small 9 9 9 (by omega) (by omega) (by omega)
  unfold exX exLow
  simp only [text_mk, texts_cons, texts_nil, mores_cons, mores_nil, tailK, e1, e2]
  decide
theorem exX_size : size exX = 4 := by unfold exX exLow; simp only [size_mk, sizes_cons, sizes_nil]
theorem exX_deep : deep exX = 3 := by unfold exX exLow; simp only [deep_mk, deeps_cons, deeps_nil]; decide
theorem exX_right : rightX exX = true := by
  unfold rightX
  rw [exX_text, exX_size]
  decide
theorem exX_print : prT exX = exTxt ∧ prE exX = 0 := by
  unfold prT prE; rw [exX_right, exX_text]; exact ⟨rfl, rfl⟩
theorem more_print : prT (.mk 11 0 [] []) = [] ∧ prE (.mk 11 0 [] []) = 1 := by
  have : rightX (.mk 11 0 [] []) = false := by unfold rightX; rw [show isCond (Ex.mk 11 0 [] []).k = true from rfl]; simp
  unfold prT prE; rw [this]; exact ⟨rfl, rfl⟩
theorem none_right : rightX (.mk 0 0 [] []) = false := by
  have : fine 32 (.mk 0 0 [] []) = false := by decide
  unfold rightX; rw [this]; simp
theorem low_ne : exX ≠ exLow := fun h => by unfold exX exLow at h; injection h with h; cases h
theorem arg1 {f : FuncId} {v v' : Value} {w : World} {Q : Ending → World → Prop} (hv : Hid (v = v')) (h : Calls Tryd.prog f #[v] w Q) : Calls Tryd.prog f #[v'] w Q := by rw [← hv.out]; exact h
theorem arg2 {f : FuncId} {v v' u u' : Value} {w : World} {Q : Ending → World → Prop} (hv : Hid (v = v')) (hu : Hid (u = u')) (h : Calls Tryd.prog f #[v, u] w Q) : Calls Tryd.prog f #[v', u'] w Q := by rw [← hv.out, ← hu.out]; exact h
theorem leaf11 (w : World) : ExAt (fun _ => True) w (11, 0, [], none, 0, 0) (.mk 11 0 [] []) := ExAt.leaf _ _ 11 0 [] none 0 ⟨by decide, by decide⟩ ⟨by decide, by decide⟩ (Nat.zero_le _)
theorem leaf0 (w : World) : ExAt (fun _ => True) w (0, 0, [], none, 0, 0) (.mk 0 0 [] []) := ExAt.leaf _ _ 0 0 [] none 0 ⟨by decide, by decide⟩ ⟨by decide, by decide⟩ (Nat.zero_le _)
/-- The blocks that awake makes. -/
theorem awake_world (w : World) : ∃ W : World, W = (((w.alloc (.cells #[.int .i64 1, .int .i64 0, .string ⟨#[]⟩, .slice none 0 0] 27)).alloc (.cells #[.int .i64 1, .int .i64 0, .string ⟨#[]⟩, .slice none 0 0] 27)).alloc
    (.cells #[.int .i64 5, .int .i64 1, .string ⟨#[]⟩, .slice (some ⟨w.heap.size + 1, 0, none⟩) 1 1, .int .i64 4, .int .i64 999, .string ⟨#[]⟩, .slice none 0 0] 27)).alloc (.cells #[.int .i64 9, .int .i64 0, .string ⟨#[]⟩, .slice (some ⟨w.heap.size + 2, 0, none⟩) 2 2] 27) ∧
    Bk W w.heap.size 27 #[.int .i64 1, .int .i64 0, .string ⟨#[]⟩, .slice none 0 0] ∧ Bk W (w.heap.size + 3) 27 #[.int .i64 9, .int .i64 0, .string ⟨#[]⟩, .slice (some ⟨w.heap.size + 2, 0, none⟩) 2 2] ∧
    ExAt (fun _ => True) W (9, 0, [], some ⟨w.heap.size + 2, 0, none⟩, 2, 2) exX ∧ ExAt (fun _ => True) W (1, 0, [], none, 0, 0) exLow := by
  refine ⟨_, rfl, ?_, ?_, ?_, ?_⟩
  · exact (((Bk.new w _ _).alloc _).alloc _).alloc _
  · have := Bk.new (((w.alloc (.cells #[.int .i64 1, .int .i64 0, .string ⟨#[]⟩, .slice none 0 0] 27)).alloc (.cells #[.int .i64 1, .int .i64 0, .string ⟨#[]⟩, .slice none 0 0] 27)).alloc
      (.cells #[.int .i64 5, .int .i64 1, .string ⟨#[]⟩, .slice (some ⟨w.heap.size + 1, 0, none⟩) 1 1, .int .i64 4, .int .i64 999, .string ⟨#[]⟩, .slice none 0 0] 27)) 27 #[.int .i64 9, .int .i64 0, .string ⟨#[]⟩, .slice (some ⟨w.heap.size + 2, 0, none⟩) 2 2]
    simp only [World.size_alloc] at this
    exact this
  · have b2 := Bk.new ((w.alloc (.cells #[.int .i64 1, .int .i64 0, .string ⟨#[]⟩, .slice none 0 0] 27)).alloc (.cells #[.int .i64 1, .int .i64 0, .string ⟨#[]⟩, .slice none 0 0] 27)) 27
      #[.int .i64 5, .int .i64 1, .string ⟨#[]⟩, .slice (some ⟨w.heap.size + 1, 0, none⟩) 1 1, .int .i64 4, .int .i64 999, .string ⟨#[]⟩, .slice none 0 0]
    simp only [World.size_alloc] at b2
    have b1 := Bk.snd w #[.int .i64 1, .int .i64 0, .string ⟨#[]⟩, .slice none 0 0] #[.int .i64 1, .int .i64 0, .string ⟨#[]⟩, .slice none 0 0] 27 27
    refine ExAt.two (a := (5, 1, [], some ⟨w.heap.size + 1, 0, none⟩, 1, 1)) (b := (4, 999, [], none, 0, 0)) ⟨by decide, by decide⟩ ⟨by decide, by decide⟩ (Nat.zero_le _) (b2.alloc _) trivial ?_ (ExAt.leaf _ _ 4 999 [] none 0 ⟨by decide, by decide⟩ ⟨by decide, by decide⟩ (Nat.zero_le _))
    exact ExAt.one (a := (1, 0, [], none, 0, 0)) ⟨by decide, by decide⟩ ⟨by decide, by decide⟩ (Nat.zero_le _) ((b1.alloc _).alloc _) trivial (ExAt.leaf _ _ 1 0 [] none 0 ⟨by decide, by decide⟩ ⟨by decide, by decide⟩ (Nat.zero_le _))
  · exact ExAt.leaf _ _ 1 0 [] none 0 ⟨by decide, by decide⟩ ⟨by decide, by decide⟩ (Nat.zero_le _)
end Go.Proofs.YtldopbkjchgcnaaDoor

namespace Go.Proofs.YtldopbkjchgcnaaDoor
open Go.RowKit Go.Lib
set_option linter.unusedVariables false
set_option linter.unusedSimpArgs false

def CompileOk : Prop := ∀ (x : Ex) (S : Nat → Prop) (e : El) (w0 w : World), Rel w0 w → ExAt S w e x → size x ≤ 90000 →
    Calls Tryd.prog 11 #[EV e] w fun r w' => ∃ A c, r = .returned (.tuple #[.slice A (codX x).length c, .int .i64 (codR x)]) ∧ InsOwn w' w.heap.size (.slice A (codX x).length c) (codX x) ∧ Rel w0 w'
def CRightOk : Prop := ∀ (A : Option Addr) (c : Nat) (l : List In) (w0 w : World), Rel w0 w → InsArg w A c l → Calls Tryd.prog 16 #[.slice A l.length c] w fun z w' => z = .returned (.bool (codeOk l)) ∧ Rel w0 w'
def CTextOk : Prop := ∀ (A : Option Addr) (c : Nat) (l : List In) (w0 w : World), (textC l).length ≤ 1000000000 → Rel w0 w → InsArg w A c l → Calls Tryd.prog 14 #[.slice A l.length c] w fun z w' => z = .returned (.string (B (textC l))) ∧ Rel w0 w'
/-- What the program is shown to tell. -/
def CodeOk : Prop := CompileOk ∧ CRightOk ∧ CTextOk
/-- A call of Compile, what it tells spelled. -/
theorem compile_as (H : CodeOk) (x : Ex) (l : List In) (n : Nat) (er : Int) (hl : Hid (codX x = l ∧ l.length = n ∧ codR x = er)) (S : Nat → Prop) (e : El) (w0 w : World) (hr : Rel w0 w) (h : ExAt S w e x) (hz : size x ≤ 90000) (ev : Value) (he : Hid (EV e = ev)) :
    Calls Tryd.prog 11 #[ev] w fun r w' => ∃ A c, r = .returned (.tuple #[.slice A n c, .int .i64 er]) ∧ InsOwn w' w.heap.size (.slice A n c) l ∧ Rel w0 w' := by
  obtain ⟨h1, h2, h3⟩ := hl.out
  subst h1 h2 h3
  rw [← he.out]; exact H.1 x S e w0 w hr h hz
theorem cright_as (H : CodeOk) (l : List In) (n : Nat) (b : Bool) (hb : Hid (codeOk l = b ∧ l.length = n)) (A : Option Addr) (c : Nat) (w0 w : World) (hr : Rel w0 w) (h : InsArg w A c l) :
    Calls Tryd.prog 16 #[.slice A n c] w fun z w' => z = .returned (.bool b) ∧ Rel w0 w' := by
  obtain ⟨h1, h2⟩ := hb.out
  subst h1 h2
  exact H.2.1 A c l w0 w hr h
theorem ctext_as (H : CodeOk) (l : List In) (n : Nat) (T : ByteArray) (hT : Hid (B (textC l) = T ∧ l.length = n ∧ (textC l).length ≤ 1000000000)) (A : Option Addr) (c : Nat) (w0 w : World) (hr : Rel w0 w) (h : InsArg w A c l) :
    Calls Tryd.prog 14 #[.slice A n c] w fun z w' => z = .returned (.string T) ∧ Rel w0 w' := by
  obtain ⟨h1, h2, h3⟩ := hT.out
  subst h1 h2
  exact H.2.2 A c l w0 w h3 hr h
theorem dd1 (n : Nat) (h : n < 10) : decDigits n = [UInt8.ofNat (48 + n)] := by rw [decDigits, dif_pos h]
theorem dd3 : decDigits 999 = [57, 57, 57] := by
  rw [decDigits, dif_neg (by omega), decDigits, dif_neg (by omega), dd1 _ (by omega)]; rfl
def exC : List In := [(2, 0, []), (5, 1, []), (9, 4, []), (1, 999, [])]
def exCT : List UInt8 := [108, 111, 119, 101, 115, 116, 10, 108, 101, 115, 115, 32, 49, 10, 101, 108, 115, 101, 32, 52, 10, 112, 117, 115, 104, 32, 57, 57, 57, 10]
theorem exX_cod : codX exX = exC ∧ exC.length = 4 ∧ codR exX = 0 := by
  obtain ⟨h1, h2⟩ := codX_yes exX_right
  refine ⟨?_, rfl, h2⟩
  rw [h1]
  unfold exX exLow
  rw [cod_else, cod_op (by decide) (by decide), cods_cons, cods_nil, cod_op (by decide) (by decide), cods_nil, cod_op (by decide) (by decide), cods_nil]
  rfl
theorem exC_text : textC exC = exCT := by
  unfold exC
  simp only [textC, lineT, tailO, numO]
  rw [show itoa 1 = [49] from by rw [itoa_pos (by omega)]; exact dd1 1 (by omega), show itoa 4 = [52] from by rw [itoa_pos (by omega)]; exact dd1 4 (by omega), show itoa 999 = [57, 57, 57] from by rw [itoa_pos (by omega)]; exact dd3]
  rfl
theorem ins_new (w : World) (o n : Int) (ho : i64 o) (hn : i64 n) : InsArg (w.alloc (.cells #[.int .i64 o, .int .i64 n, .string ⟨#[]⟩] 44)) (some ⟨w.heap.size, 0, none⟩) 1 [(o, n, [])] := by
  refine ⟨Nat.le_refl _, by decide, fun t ht => ?_, InsAt.of_bk (l := [(o, n, [])]) (Bk.new w _ _)⟩
  simp only [List.mem_cons, List.not_mem_nil, or_false] at ht
  subst ht
  exact ⟨ho, hn, by simp⟩
set_option maxRecDepth 100000 in
set_option maxHeartbeats 8000000 in
theorem awake10_any (H : CodeOk) (w0 w : World) (hr : Rel w0 w) :
    Calls Tryd.prog 8 #[] w fun e w' => e = .returned (.bool true) ∧ Rel w0 w' := by
  have H := Lib.hid H
  have HR := Lib.hid hr
  obtain ⟨W, hW, hb0, hb3, hx, hlow⟩ := awake_world w
  have hA : Rel w W := by rw [hW]; exact (((hr.self.alloc _).alloc _).alloc _).alloc _
  have HA := Lib.hid hA
  have HB3 := Lib.hid hb3
  have HX := Lib.hid hx
  obtain ⟨⟨c0, c1, c2, c3⟩, _⟩ := hb3.four
  have Z1 : size exX ≤ 90000 := by rw [exX_size]; omega
  have Z2 : size (.mk 0 0 [] []) ≤ 90000 := by rw [size_mk, sizes_nil]; omega
  have Q1 := Lib.hid exX_cod
  have Q2 : Hid (codX (.mk 0 0 [] []) = [] ∧ ([] : List In).length = 0 ∧ codR (.mk 0 0 [] []) = 1) := Lib.hid ⟨(codX_no none_right).1, rfl, (codX_no none_right).2⟩
  have Q3 : Hid (B (textC exC) = ⟨#[108, 111, 119, 101, 115, 116, 10, 108, 101, 115, 115, 32, 49, 10, 101, 108, 115, 101, 32, 52, 10, 112, 117, 115, 104, 32, 57, 57, 57, 10]⟩ ∧ exC.length = 4 ∧ (textC exC).length ≤ 1000000000) := Lib.hid ⟨by rw [exC_text]; rfl, rfl, by rw [exC_text]; decide⟩
  have Q4 : Hid (codeOk exC = true ∧ exC.length = 4) := Lib.hid ⟨by have := (right_code exX_right).1; rw [← (codX_yes exX_right).1, exX_cod.1] at this; exact this, rfl⟩
  have Q5 : Hid (codeOk [(13, 0, [])] = false ∧ ([(13, 0, [])] : List In).length = 1) := Lib.hid ⟨by decide, rfl⟩
  have Q6 : Hid (codeOk [(14, 0, [])] = false ∧ ([(14, 0, [])] : List In).length = 1) := Lib.hid ⟨by decide, rfl⟩
  have HFit := Lib.hid (show InsFit exC by have := codX_fit exX; rwa [exX_cod.1] at this)
  have V9 : Hid (EV (9, 0, [], some ⟨w.heap.size + 2, 0, none⟩, 2, 2) = .agg #[.int .i64 9, .int .i64 0, .string ⟨#[]⟩, .slice (some ⟨w.heap.size + 2, 0, none⟩) 2 2]) := Lib.hid rfl
  have V0 : Hid (EV (0, 0, [], none, 0, 0) = .agg #[.int .i64 0, .int .i64 0, .string ⟨#[]⟩, .slice none 0 0]) := Lib.hid rfl
  have LF : Hid (∀ w1 : World, ExAt (fun _ => True) w1 (0, 0, [], none, 0, 0) (.mk 0 0 [] [])) := Lib.hid (fun w1 => ExAt.leaf _ _ 0 0 [] none 0 ⟨by decide, by decide⟩ ⟨by decide, by decide⟩ (Nat.zero_le _))
  have I13 : Hid (∀ w1 : World, InsArg (w1.alloc (.cells #[.int .i64 13, .int .i64 0, .string ⟨#[]⟩] 44)) (some ⟨w1.heap.size, 0, none⟩) 1 [(13, 0, [])]) := Lib.hid (fun w1 => ins_new w1 13 0 ⟨by decide, by decide⟩ ⟨by decide, by decide⟩)
  have I14 : Hid (∀ w1 : World, InsArg (w1.alloc (.cells #[.int .i64 14, .int .i64 0, .string ⟨#[]⟩] 44)) (some ⟨w1.heap.size, 0, none⟩) 1 [(14, 0, [])]) := Lib.hid (fun w1 => ins_new w1 14 0 ⟨by decide, by decide⟩ ⟨by decide, by decide⟩)
  have HW := Lib.hid hW
  clear hW hA hb0 hb3 hx hlow
  go_enter Tryd.func8, Tryd.ntmps8
  go_upto_region 3 with (fail)
  simp only [Nat.add_assoc, Nat.reduceAdd]
  rw [← HW.out]
  have HRW := Lib.hid (HR.out.trans HA.out)
  go_upto_region 5 with (first
    | (go_at_call 11; (with_reducible refine (compile_as H.out exX exC 4 0 Q1 (fun _ => True) (9, 0, [], some ⟨w.heap.size + 2, 0, none⟩, 2, 2) _ _ HRW.out.self HX.out Z1 _ V9).mono ?_); rintro e w1 ⟨A1, a1, rfl, o1, h1⟩; have R1 := Lib.hid h1; have O1 := Lib.hid o1; clear o1 h1)
    | (go_at_call 11; (with_reducible refine (compile_as H.out (.mk 0 0 [] []) [] 0 1 Q2 (fun _ => True) (0, 0, [], none, 0, 0) _ _ R1.out.self (LF.out _) Z2 _ V0).mono ?_); rintro e w2 ⟨A2, a2, rfl, o2, h2⟩; have R2 := Lib.hid (R1.out.trans h2); have O2 := Lib.hid (InsOwn.arg (A := A1) (c := a1) (l := exC) (O1.out.rel h2) HFit.out)))
  clear o2 h2
  go_wp2_with (first
    | (go_at_call 14; (with_reducible refine (ctext_as H.out exC 4 _ Q3 A1 a1 _ _ R2.out.self O2.out).mono ?_); rintro e w3 ⟨rfl, h3⟩; have R3 := Lib.hid (R2.out.trans h3); have O3 := Lib.hid (O2.out.rel h3))
    | (go_at_call 16; (with_reducible refine (cright_as H.out exC 4 true Q4 A1 a1 _ _ R3.out.self O3.out).mono ?_); rintro e w4 ⟨rfl, h4⟩; have R4 := Lib.hid (R3.out.trans h4))
    | (go_at_call 16; (with_reducible refine (cright_as H.out [(13, 0, [])] 1 false Q5 _ 1 _ _ (R4.out.self.alloc _).self (I13.out _)).mono ?_); rintro e w5 ⟨rfl, h5⟩; have R5 := Lib.hid ((R4.out.alloc _).trans h5))
    | (go_at_call 16; (with_reducible refine (cright_as H.out [(14, 0, [])] 1 false Q6 _ 1 _ _ (R5.out.self.alloc _).self (I14.out _)).mono ?_); rintro e w6 ⟨rfl, h6⟩; have R6 := Lib.hid ((R5.out.alloc _).trans h6)))
  go_ret
  exact ⟨rfl, HRW.out.trans R6.out⟩
end Go.Proofs.YtldopbkjchgcnaaDoor

namespace Go.Proofs.YtldopbkjchgcnaaDoor
open Go.RowKit Go.Lib
set_option linter.unusedVariables false
set_option linter.unusedSimpArgs false

theorem clen10 : ∀ l : List Ex, l.length ≤ sizes l := fun l => by
  induction l with
  | nil => simp
  | cons x t ih => rw [sizes_cons, List.length_cons]; have := size_pos x; omega
theorem manys_append (kind : Int) (a b : List Ex) : manys kind (a ++ b) = manys kind a + manys kind b := by
  induction a with
  | nil => rw [List.nil_append, manys_nil]; omega
  | cons x t ih => rw [List.cons_append, manys_cons, manys_cons, ih]; omega
theorem manys_take (kind : Int) (l : List Ex) (j : Nat) (h : j < l.length) : manys kind (l.take (j + 1)) = manys kind (l.take j) + many kind l[j] := by
  rw [List.take_succ_eq_append_getElem h, manys_append, manys_cons, manys_nil]; omega
theorem manys_le (kind : Int) (l : List Ex) : manys kind l ≤ sizes l := by
  induction l with
  | nil => rw [sizes_nil, manys_nil]; omega
  | cons x t ih => have := many_le kind x; rw [sizes_cons, manys_cons]; omega
set_option maxRecDepth 100000 in
set_option maxHeartbeats 2000000 in
theorem lmany_any (kind : Int) : ∀ (x : Ex) (S : Nat → Prop) (e : El) (w0 w : World), Rel w0 w → ExAt S w e x → size x ≤ 1000000 →
    Calls Tryd.prog 20 #[EV e, .int .i64 kind] w fun r w' => r = .returned (.int .i64 (many kind x : Int)) ∧ Rel w0 w' := ex_ind fun k n nm l ih S e w0 w hr h hz => by
  obtain ⟨A, c, es, rfl, hk, hn, hm, hl, hrow, hsub⟩ := h.open
  have HRow := Lib.hid hrow
  have HSub := Lib.hid hsub
  have HIH := Lib.hid (fun j hj => ih _ (List.getElem_mem (l := l) (n := j) hj))
  have HR := Lib.hid hr
  rw [size_mk] at hz
  have HM := Lib.hid (many_mk kind k n nm l)
  have hll : l.length ≤ 1000000 := by have := clen10 l; omega
  have HBd := Lib.hid (fun j => show manys kind (l.take j) ≤ 1000000 by
    have h1 := manys_append kind (l.take j) (l.drop j)
    rw [List.take_append_drop] at h1
    have := manys_le kind l
    omega)
  have HA := Lib.hid (hr.self.alloc (.cells #[.int .i64 k, .int .i64 n, .string (B nm), .slice A l.length c] 27))
  have HB := Lib.hid (Bk.new w 27 #[.int .i64 k, .int .i64 n, .string (B nm), .slice A l.length c])
  obtain ⟨W, hW⟩ : ∃ W, w.alloc (.cells #[.int .i64 k, .int .i64 n, .string (B nm), .slice A l.length c] 27) = W := ⟨_, rfl⟩
  rw [hW] at HA HB
  obtain ⟨⟨b0, b1, b2, b3⟩, _⟩ := HB.out.four
  obtain ⟨z, hzz⟩ : ∃ z : Nat, (if k = kind then 1 else 0) = z := ⟨_, rfl⟩
  have hz1 : z ≤ 1 := by rw [← hzz]; split <;> omega
  have hway : ((k == kind) = true ∧ z = 1) ∨ ((k == kind) = false ∧ z = 0) := by
    by_cases e : k = kind
    · exact .inl ⟨by simpa using e, by rw [← hzz, if_pos e]⟩
    · exact .inr ⟨by simpa using e, by rw [← hzz, if_neg e]⟩
  rw [hzz] at HM
  clear hrow hsub ih h hzz
  rcases hway with ⟨k1, rfl⟩ | ⟨k1, rfl⟩
  · go_enter Tryd.func20, Tryd.ntmps20
    go_wp2_with (fail)
    go_loopw [5, 6] (fun n i wr => ∃ j : Nat, j ≤ l.length ∧ i = .int .i64 (j : Int) ∧ Hid (n = .int .i64 ((1 + manys kind (l.take j) : Nat) : Int)) ∧ Rel W wr) (fun _ i _ => l.length - (RowKit.intOf i).toNat)
    case atStart => exact ⟨0, by omega, rfl, Lib.hid (by rw [List.take_zero, manys_nil]; rfl), HA.out.self⟩
    case round =>
      obtain ⟨j, hj, rfl, HN, hRw⟩ := hrel
      obtain ⟨q, hq⟩ : ∃ q : Nat, 1 + manys kind (l.take j) = q := ⟨_, rfl⟩
      have hn' := HN.out
      rw [hq] at hn'
      subst hn'
      have HQ := Lib.hid hq
      have hqb : q ≤ 1000001 := by have := HBd.out j; omega
      have HRw := Lib.hid hRw
      obtain ⟨⟨d0, d1, d2, d3⟩, _⟩ := (HB.out.rel hRw).four
      clear hq
      by_cases hlt : j < l.length
      · obtain ⟨g, off, k', n', nm', A', m', c', hA, a0, a1, a2, a3, ha⟩ := ExAt.arg HRow.out HSub.out hl (HA.out.trans hRw) j hlt
        subst hA
        have hsz : size l[j] ≤ 1000000 := by have := size_mem (List.getElem_mem (l := l) (n := j) hlt); omega
        have hmj : many kind l[j] ≤ 1000000 := Nat.le_trans (many_le kind l[j]) hsz
        obtain ⟨sj, hsj⟩ : ∃ s, many kind l[j] = s := ⟨_, rfl⟩
        have HNx := Lib.hid (show 1 + manys kind (l.take (j + 1)) = q + sj by rw [manys_take kind l j hlt, hsj]; have := HQ.out; omega)
        have hC := HIH.out j hlt S (k', n', nm', A', m', c') _ _ HRw.out.self (ha.rel (Rel.self HRw.out)) hsz
        rw [hsj] at hC hmj
        have HC := Lib.hid hC
        clear ha hsj hC
        go_wp2_with (go_at_call 20; (with_reducible refine HC.out.mono ?_); rintro e w2 ⟨rfl, h2⟩)
        go_roundw
        case rel => exact ⟨j + 1, by omega, by go_num, Lib.hid (by rw [HNx.out]; go_num), HRw.out.trans h2⟩
        case measure => simp [RowKit.intOf]; omega
      · obtain rfl : j = l.length := by omega
        have HF := Lib.hid (show many kind (.mk k n nm l) = q by have := HQ.out; rw [List.take_length] at this; rw [HM.out, this])
        go_wp2_with (fail)
        go_ret
        exact ⟨ret_int (by rw [HF.out]), (HR.out.trans HA.out).trans HRw.out⟩
  · go_enter Tryd.func20, Tryd.ntmps20
    go_wp2_with (fail)
    go_loopw [5, 6] (fun n i wr => ∃ j : Nat, j ≤ l.length ∧ i = .int .i64 (j : Int) ∧ Hid (n = .int .i64 ((0 + manys kind (l.take j) : Nat) : Int)) ∧ Rel W wr) (fun _ i _ => l.length - (RowKit.intOf i).toNat)
    case atStart => exact ⟨0, by omega, rfl, Lib.hid (by rw [List.take_zero, manys_nil]; rfl), HA.out.self⟩
    case round =>
      obtain ⟨j, hj, rfl, HN, hRw⟩ := hrel
      obtain ⟨q, hq⟩ : ∃ q : Nat, 0 + manys kind (l.take j) = q := ⟨_, rfl⟩
      have hn' := HN.out
      rw [hq] at hn'
      subst hn'
      have HQ := Lib.hid hq
      have hqb : q ≤ 1000001 := by have := HBd.out j; omega
      have HRw := Lib.hid hRw
      obtain ⟨⟨d0, d1, d2, d3⟩, _⟩ := (HB.out.rel hRw).four
      clear hq
      by_cases hlt : j < l.length
      · obtain ⟨g, off, k', n', nm', A', m', c', hA, a0, a1, a2, a3, ha⟩ := ExAt.arg HRow.out HSub.out hl (HA.out.trans hRw) j hlt
        subst hA
        have hsz : size l[j] ≤ 1000000 := by have := size_mem (List.getElem_mem (l := l) (n := j) hlt); omega
        have hmj : many kind l[j] ≤ 1000000 := Nat.le_trans (many_le kind l[j]) hsz
        obtain ⟨sj, hsj⟩ : ∃ s, many kind l[j] = s := ⟨_, rfl⟩
        have HNx := Lib.hid (show 0 + manys kind (l.take (j + 1)) = q + sj by rw [manys_take kind l j hlt, hsj]; have := HQ.out; omega)
        have hC := HIH.out j hlt S (k', n', nm', A', m', c') _ _ HRw.out.self (ha.rel (Rel.self HRw.out)) hsz
        rw [hsj] at hC hmj
        have HC := Lib.hid hC
        clear ha hsj hC
        go_wp2_with (go_at_call 20; (with_reducible refine HC.out.mono ?_); rintro e w2 ⟨rfl, h2⟩)
        go_roundw
        case rel => exact ⟨j + 1, by omega, by go_num, Lib.hid (by rw [HNx.out]; go_num), HRw.out.trans h2⟩
        case measure => simp [RowKit.intOf]; omega
      · obtain rfl : j = l.length := by omega
        have HF := Lib.hid (show many kind (.mk k n nm l) = q by have := HQ.out; rw [List.take_length] at this; rw [HM.out, this])
        go_wp2_with (fail)
        go_ret
        exact ⟨ret_int (by rw [HF.out]), (HR.out.trans HA.out).trans HRw.out⟩
theorem codX_code (x : Ex) (h : rightX x = true) : codeOk (codX x) = true ∧ (codX x).length = size x + many 10 x ∧ size x ≤ 2000 := by
  have hr := right_code h
  rw [(codX_yes h).1]
  refine ⟨hr.1, by rw [hr.2.1, clen_size], ?_⟩
  unfold rightX at h
  simp only [Bool.and_eq_true, decide_eq_true_eq] at h
  exact h.1.2
set_option maxRecDepth 100000 in
set_option maxHeartbeats 8000000 in
theorem CodeSize_at (H : CodeOk) (HT : RightOk) (HZ : SizeOk) (A : Option Addr) (c : Nat) (L : List Int) (w : World) (hr : Rel w w) (hi : IntsIn w A c L) :
    Calls Tryd.prog 4 #[.slice A L.length c] w fun e w' => e = .returned (.bool true) ∧ Rel w w' := by
  have H := Lib.hid H
  have HR := Lib.hid hr
  have HI0 := Lib.hid hi
  obtain ⟨x, hx⟩ : ∃ x, strat L = x := ⟨_, rfl⟩
  have hS := fun (w0 w : World) (hr : Rel w0 w) (h : IntsIn w A c L) => strat_any A c L w0 w hr h
  have zx : size x ≤ 70000 := by have := strat_size L; rw [hx] at this; omega
  rw [hx] at hS
  have HSt := Lib.hid hS
  have HT := Lib.hid HT
  have HZ := Lib.hid HZ
  clear hi hx hS hr
  go_enter Tryd.func4, Tryd.ntmps4
  go_upto_region 3 with (first
    | (go_at_call 8; (with_reducible refine (awake10_any H.out _ _ HR.out).mono ?_); rintro e1 w1 ⟨rfl, h1⟩; have R1 := Lib.hid h1)
    | (go_at_call 9; (with_reducible refine (HSt.out _ _ R1.out (HI0.out.rel R1.out)).mono ?_); rintro e2 w2 ⟨vx, rfl, ex, h2⟩; have R2 := Lib.hid h2))
  have RA := Lib.hid (R2.out.alloc (.cells #[.int .i64 vx.1, .int .i64 vx.2.1, .string (B vx.2.2.1), .slice vx.2.2.2.1 vx.2.2.2.2.1 vx.2.2.2.2.2] 27))
  have HB := Lib.hid (Bk.new w2 27 #[.int .i64 vx.1, .int .i64 vx.2.1, .string (B vx.2.2.1), .slice vx.2.2.2.1 vx.2.2.2.2.1 vx.2.2.2.2.2])
  have EX := Lib.hid ((ex.rel (R2.out.self.alloc (.cells #[.int .i64 vx.1, .int .i64 vx.2.1, .string (B vx.2.2.1), .slice vx.2.2.2.1 vx.2.2.2.2.1 vx.2.2.2.2.2] 27))).weak (S' := fun _ => True) (fun _ _ => trivial))
  obtain ⟨W, hW⟩ : ∃ W, w2.alloc (.cells #[.int .i64 vx.1, .int .i64 vx.2.1, .string (B vx.2.2.1), .slice vx.2.2.2.1 vx.2.2.2.2.1 vx.2.2.2.2.2] 27) = W := ⟨_, rfl⟩
  rw [hW] at RA HB EX ⊢
  clear hW ex h1 h2
  obtain ⟨⟨x0, x1, x2, x3⟩, _⟩ := HB.out.four
  obtain ⟨b, hb⟩ : ∃ b, rightX x = b := ⟨_, rfl⟩
  cases b with
  | false =>
    have Q := Lib.hid (show codX x = [] ∧ ([] : List In).length = 0 ∧ codR x = 1 from ⟨(codX_no hb).1, rfl, (codX_no hb).2⟩)
    have hC := fun (w' : World) (hh : Rel W w') => HT.out x _ vx w' w' hh.self (EX.out.rel hh) (by omega)
    rw [hb] at hC
    have HC := Lib.hid hC
    clear hC hb
    go_wp2_with (first
      | (go_at_call 11; (with_reducible refine (compile_as H.out x [] 0 1 Q _ vx _ _ RA.out.self EX.out (by omega) _ (Lib.hid rfl)).mono ?_); rintro e w3 ⟨A3, a3, rfl, o3, h3⟩; have R3 := Lib.hid h3; obtain ⟨⟨y0, y1, y2, y3⟩, _⟩ := (HB.out.rel h3).four)
      | (go_at_call 18; (with_reducible refine (HC.out _ R3.out).mono ?_); rintro e w4 ⟨rfl, h4⟩))
    go_ret
    exact ⟨rfl, HR.out.trans (RA.out.trans (R3.out.trans h4))⟩
  | true =>
    obtain ⟨l, hl⟩ : ∃ l, codX x = l := ⟨_, rfl⟩
    obtain ⟨n, hn⟩ : ∃ n, l.length = n := ⟨_, rfl⟩
    obtain ⟨k1, k2, k3⟩ := codX_code x hb
    rw [hl] at k1 k2
    have Q := Lib.hid (show codX x = l ∧ l.length = n ∧ codR x = 0 from ⟨hl, hn, (codX_yes hb).2⟩)
    have HQ := Lib.hid (show codeOk l = true ∧ l.length = n from ⟨k1, hn⟩)
    have hm10 := many_le 10 x
    obtain ⟨sz, hsz⟩ : ∃ s, size x = s := ⟨_, rfl⟩
    obtain ⟨mn, hmn⟩ : ∃ s, many 10 x = s := ⟨_, rfl⟩
    have hq : n = sz + mn := by omega
    have HF := Lib.hid (ins_fit k1)
    have hSz := fun (w' : World) (hh : Rel W w') => HZ.out x _ vx w' w' hh.self (EX.out.rel hh) (by omega)
    have hMn := fun (w' : World) (hh : Rel W w') => lmany_any 10 x _ vx w' w' hh.self (EX.out.rel hh) (by omega)
    rw [hsz] at hSz k3 hm10
    rw [hmn] at hMn hm10
    have HSz0 := Lib.hid hSz
    have HMn0 := Lib.hid hMn
    have q1 : IntKind.i64.wrap ((sz : Int) + (mn : Int)) = (sz : Int) + (mn : Int) := IntWalk.i64_in _ (by omega)
    have hqi : (n : Int) = (sz : Int) + (mn : Int) := by omega
    have q2 : ((n : Int) == (sz : Int) + (mn : Int)) = true := by simpa using hqi
    clear hl hn hb k1 k2 hSz hMn hsz hmn hq hqi
    go_upto_region 6 with (go_at_call 11; (with_reducible refine (compile_as H.out x l n 0 Q _ vx _ _ RA.out.self EX.out (by omega) _ (Lib.hid rfl)).mono ?_); rintro e w3 ⟨A1, a1, rfl, o3, h3⟩)
    have R3 := Lib.hid h3
    have R3s := Lib.hid h3.self
    have HI := Lib.hid (show InsArg w3 A1 a1 l from InsOwn.arg (by rw [HQ.out.2]; exact o3) HF.out)
    have HSz := Lib.hid (fun (w' : World) (hh : Rel w3 w') => HSz0.out w' (R3.out.trans hh))
    have HMn := Lib.hid (fun (w' : World) (hh : Rel w3 w') => HMn0.out w' (R3.out.trans hh))
    clear o3 h3
    refine wp_region_held_drew (S := (fun w' => Rel w3 w')) (by kernel_rfl) R3s.out.drew (fun hHeld => ?_)
    refine held_take (i := 0) (v := ?_) (some 23) rfl rfl (by kernel_rfl) (by kernel_rfl) (by kernel_rfl) (fun _ _ _ h => h) (Or.inl ⟨by rfl, ?_⟩) hHeld ?_
    rotate_left 1
    · intro w' (h : Rel w3 w'); obtain ⟨⟨z0, z1, z2, z3⟩, _⟩ := (HB.out.rel (R3.out.trans h)).four; go_simp; try with_reducible rfl
    try simp only [Act.put, List.setIfInBounds_toArray, List.set_cons_zero, List.set_cons_succ]
    refine held_take (i := 1) (v := ?_) (some 24) rfl rfl (by kernel_rfl) (by kernel_rfl) (by kernel_rfl) (fun _ _ _ h => h) (Or.inl ⟨by rfl, ?_⟩) hHeld ?_
    rotate_left 1
    · intro w' (h : Rel w3 w'); obtain ⟨⟨z0, z1, z2, z3⟩, _⟩ := (HB.out.rel (R3.out.trans h)).four; go_simp; try with_reducible rfl
    try simp only [Act.put, List.setIfInBounds_toArray, List.set_cons_zero, List.set_cons_succ]
    refine held_take (i := 2) (v := ?_) (some 25) rfl rfl (by kernel_rfl) (by kernel_rfl) (by kernel_rfl) (fun _ _ _ h => h) (Or.inl ⟨by rfl, ?_⟩) hHeld ?_
    rotate_left 1
    · intro w' (h : Rel w3 w'); obtain ⟨⟨z0, z1, z2, z3⟩, _⟩ := (HB.out.rel (R3.out.trans h)).four; go_simp; try with_reducible rfl
    try simp only [Act.put, List.setIfInBounds_toArray, List.set_cons_zero, List.set_cons_succ]
    refine held_one (j := 3) (by kernel_rfl) rfl (fun K hK => ?_)
    try simp only [List.getElem_toArray, List.getElem_cons_succ, List.getElem_cons_zero]
    rw [if_pos (by rfl)]
    go_simp
    go_at_call 16
    (with_reducible refine (cright_as H.out l n true HQ A1 a1 _ _ hHeld.self (HI.out.rel hHeld)).mono ?_)
    rintro e w4 ⟨rfl, h4⟩
    refine hK.out _ _ (hHeld.trans h4) (fun hHeld => ?_)
    clear hK K
    try simp only [Act.put, List.setIfInBounds_toArray, List.set_cons_zero, List.set_cons_succ]
    refine held_take (i := 4) (v := ?_) (some 27) rfl rfl (by kernel_rfl) (by kernel_rfl) (by kernel_rfl) (fun _ _ _ h => h) (Or.inl ⟨by rfl, ?_⟩) hHeld ?_
    rotate_left 1
    · intro w' (h : Rel w3 w'); obtain ⟨⟨z0, z1, z2, z3⟩, _⟩ := (HB.out.rel (R3.out.trans h)).four; go_simp; try with_reducible rfl
    try simp only [Act.put, List.setIfInBounds_toArray, List.set_cons_zero, List.set_cons_succ]
    refine held_take (i := 5) (v := ?_) (some 28) rfl rfl (by kernel_rfl) (by kernel_rfl) (by kernel_rfl) (fun _ _ _ h => h) (Or.inl ⟨by rfl, ?_⟩) hHeld ?_
    rotate_left 1
    · intro w' (h : Rel w3 w'); obtain ⟨⟨z0, z1, z2, z3⟩, _⟩ := (HB.out.rel (R3.out.trans h)).four; go_simp; try with_reducible rfl
    try simp only [Act.put, List.setIfInBounds_toArray, List.set_cons_zero, List.set_cons_succ]
    refine held_take (i := 6) (v := ?_) (some 29) rfl rfl (by kernel_rfl) (by kernel_rfl) (by kernel_rfl) (fun _ _ _ h => h) (Or.inl ⟨by rfl, ?_⟩) hHeld ?_
    rotate_left 1
    · intro w' (h : Rel w3 w'); obtain ⟨⟨z0, z1, z2, z3⟩, _⟩ := (HB.out.rel (R3.out.trans h)).four; go_simp; try with_reducible rfl
    try simp only [Act.put, List.setIfInBounds_toArray, List.set_cons_zero, List.set_cons_succ]
    refine held_take (i := 7) (v := ?_) (some 30) rfl rfl (by kernel_rfl) (by kernel_rfl) (by kernel_rfl) (fun _ _ _ h => h) (Or.inl ⟨by rfl, ?_⟩) hHeld ?_
    rotate_left 1
    · intro w' (h : Rel w3 w'); obtain ⟨⟨z0, z1, z2, z3⟩, _⟩ := (HB.out.rel (R3.out.trans h)).four; go_simp; try with_reducible rfl
    try simp only [Act.put, List.setIfInBounds_toArray, List.set_cons_zero, List.set_cons_succ]
    refine held_take (i := 8) (v := ?_) (some 31) rfl rfl (by kernel_rfl) (by kernel_rfl) (by kernel_rfl) (fun _ _ _ h => h) (Or.inl ⟨by rfl, ?_⟩) hHeld ?_
    rotate_left 1
    · intro w' (h : Rel w3 w'); obtain ⟨⟨z0, z1, z2, z3⟩, _⟩ := (HB.out.rel (R3.out.trans h)).four; go_simp; try with_reducible rfl
    try simp only [Act.put, List.setIfInBounds_toArray, List.set_cons_zero, List.set_cons_succ]
    refine held_take (i := 10) (v := ?_) (some 33) rfl rfl (by kernel_rfl) (by kernel_rfl) (by kernel_rfl) (fun _ _ _ h => h) (Or.inl ⟨by rfl, ?_⟩) hHeld ?_
    rotate_left 1
    · intro w' (h : Rel w3 w'); obtain ⟨⟨z0, z1, z2, z3⟩, _⟩ := (HB.out.rel (R3.out.trans h)).four; go_simp; try with_reducible rfl
    try simp only [Act.put, List.setIfInBounds_toArray, List.set_cons_zero, List.set_cons_succ]
    refine held_one (j := 9) (by kernel_rfl) rfl (fun K hK => ?_)
    try simp only [List.getElem_toArray, List.getElem_cons_succ, List.getElem_cons_zero]
    rw [if_pos (by rfl)]
    go_simp
    go_at_call 19
    (with_reducible refine (HSz.out _ hHeld).mono ?_)
    rintro e w5 ⟨rfl, h5⟩
    refine hK.out _ _ (hHeld.trans h5) (fun hHeld => ?_)
    clear hK K
    try simp only [Act.put, List.setIfInBounds_toArray, List.set_cons_zero, List.set_cons_succ]
    refine held_one (j := 11) (by kernel_rfl) rfl (fun K hK => ?_)
    try simp only [List.getElem_toArray, List.getElem_cons_succ, List.getElem_cons_zero]
    rw [if_pos (by rfl)]
    go_simp
    go_at_call 20
    (with_reducible refine (HMn.out _ hHeld).mono ?_)
    rintro e w6 ⟨rfl, h6⟩
    refine hK.out _ _ (hHeld.trans h6) (fun hHeld => ?_)
    clear hK K
    try simp only [Act.put, List.setIfInBounds_toArray, List.set_cons_zero, List.set_cons_succ]
    refine held_take (i := 12) (v := ?_) (some 35) rfl rfl (by kernel_rfl) (by kernel_rfl) (by kernel_rfl) (fun _ _ _ h => h) (Or.inl ⟨by rfl, ?_⟩) hHeld ?_
    rotate_left 1
    · intro w' (h : Rel w3 w'); obtain ⟨⟨z0, z1, z2, z3⟩, _⟩ := (HB.out.rel (R3.out.trans h)).four; go_simp; try with_reducible rfl
    try simp only [Act.put, List.setIfInBounds_toArray, List.set_cons_zero, List.set_cons_succ]
    refine held_take (i := 13) (v := ?_) (some 36) rfl rfl (by kernel_rfl) (by kernel_rfl) (by kernel_rfl) (fun _ _ _ h => h) (Or.inl ⟨by rfl, ?_⟩) hHeld ?_
    rotate_left 1
    · intro w' (h : Rel w3 w'); obtain ⟨⟨z0, z1, z2, z3⟩, _⟩ := (HB.out.rel (R3.out.trans h)).four; go_simp; try with_reducible rfl
    try simp only [Act.put, List.setIfInBounds_toArray, List.set_cons_zero, List.set_cons_succ]
    refine held_take (i := 14) (v := ?_) (some 37) rfl rfl (by kernel_rfl) (by kernel_rfl) (by kernel_rfl) (fun _ _ _ h => h) (Or.inl ⟨by rfl, ?_⟩) hHeld ?_
    rotate_left 1
    · intro w' (h : Rel w3 w'); obtain ⟨⟨z0, z1, z2, z3⟩, _⟩ := (HB.out.rel (R3.out.trans h)).four; go_simp; try with_reducible rfl
    try simp only [Act.put, List.setIfInBounds_toArray, List.set_cons_zero, List.set_cons_succ]
    refine held_take (i := 15) (v := ?_) (some 2) rfl rfl (by kernel_rfl) (by kernel_rfl) (by kernel_rfl) (fun _ _ _ h => h) (Or.inl ⟨by rfl, ?_⟩) hHeld ?_
    rotate_left 1
    · intro w' (h : Rel w3 w'); obtain ⟨⟨z0, z1, z2, z3⟩, _⟩ := (HB.out.rel (R3.out.trans h)).four; go_simp; try with_reducible rfl
    try simp only [Act.put, List.setIfInBounds_toArray, List.set_cons_zero, List.set_cons_succ]
    refine wpAnyH_done (by kernel_rfl) ?_ _
    go_wp2_with (fail)
    go_ret
    exact ⟨rfl, HR.out.trans (RA.out.trans (R3.out.trans hHeld))⟩
end Go.Proofs.YtldopbkjchgcnaaDoor
