/- What is asked of the program, and the law's first calls. -/
import Derived.Test.YtodeelbgonkdfaaLexPc
namespace Go.Proofs.Ytodeelbgonkdfaa
open Go.RowKit Go.Lib
set_option linter.unusedVariables false
set_option linter.unusedSimpArgs false

def LexOk : Prop := ∀ (s : ByteArray), s.size ≤ 9223372036854775807 → ∀ w0 w, Rel w0 w → Calls Try.prog 12 #[.string s] w (LexPost s.data.toList w0)
def NameOk : Prop := ∀ (s : ByteArray), s.size ≤ 9223372036854775807 → ∀ w0 w, Rel w0 w → Calls Try.prog 15 #[.string s] w fun e w' => e = .returned (.bool (isName s.data.toList)) ∧ Rel w0 w'
def WordOk : Prop := ∀ (s : ByteArray), s.size ≤ 9223372036854775807 → ∀ w0 w, Rel w0 w → Calls Try.prog 17 #[.string s] w fun e w' => e = .returned (.bool (isWord s.data.toList)) ∧ Rel w0 w'
/-- All that is asked of the program. -/
def AllOk : Prop := LexOk ∧ NameOk ∧ WordOk
/-- Where the outcome is known ahead. -/
def LexIs (ts : List Tok) (err place : Int) (w0 : World) (e : Ending) (w' : World) : Prop :=
  ∃ (A : Option Addr) (c : Nat), e = .returned (.tuple #[.slice A ts.length c, .int .i64 err, .int .i64 place]) ∧ Rel w0 w' ∧ ToksAt w' A ts
theorem LexPost.is {l : List UInt8} {w0 w' : World} {e : Ending} {ts : List Tok} {err place : Int} (h : LexPost l w0 e w') (hO : Out l ts err place) : LexIs ts err place w0 e w' := by
  obtain ⟨ts', A, c, err', place', rfl, hr, hT, hO'⟩ := h
  obtain ⟨rfl, rfl, rfl⟩ := hO'.det hO
  exact ⟨A, c, rfl, hr, hT⟩
theorem lex_is (H : AllOk) (s : ByteArray) (ts : List Tok) (err place : Int) (hO : Hid (Out s.data.toList ts err place)) (hs : s.size ≤ 9223372036854775807) (w0 w : World) (hr : Rel w0 w) :
    Calls Try.prog 12 #[.string s] w (LexIs ts err place w0) := (H.1 s hs w0 w hr).mono fun e w' h => h.is hO.out
theorem rlex_is (s : ByteArray) (ts : List Tok) (err place : Int) (hO : Hid (Out s.data.toList ts err place)) (hs : s.size ≤ 9223372036854775807) (w0 w : World) (hr : Rel w0 w) :
    Calls Try.prog 13 #[.string s] w (LexIs ts err place w0) := (rlex_any s hs w0 w hr).mono fun e w' h => h.is hO.out
theorem name_is (H : AllOk) (s : ByteArray) (b : Bool) (hO : Hid (isName s.data.toList = b)) (hs : s.size ≤ 9223372036854775807) (w0 w : World) (hr : Rel w0 w) :
    Calls Try.prog 15 #[.string s] w fun e w' => e = .returned (.bool b) ∧ Rel w0 w' := bool_at b (H.2.1 s hs w0 w hr) hO
theorem word_is (H : AllOk) (s : ByteArray) (b : Bool) (hO : Hid (isWord s.data.toList = b)) (hs : s.size ≤ 9223372036854775807) (w0 w : World) (hr : Rel w0 w) :
    Calls Try.prog 17 #[.string s] w fun e w' => e = .returned (.bool b) ∧ Rel w0 w' := bool_at b (H.2.2 s hs w0 w hr) hO
def less18 : List UInt8 := [108, 101, 115, 115, 40, 108, 111, 119, 101, 115, 116, 44, 32, 48, 46, 48, 49, 41]
def toks18 : List Tok := [(1, [108, 101, 115, 115], 0, 0), (4, [40], 0, 4), (1, [108, 111, 119, 101, 115, 116], 0, 5), (4, [44], 0, 11), (3, [48, 46, 48, 49], 1, 13), (4, [41], 0, 17), (5, [], 0, 18)]
theorem good_sign {c : UInt8} (h : isSg c = true) : Good [c] 4 0 := .inl ⟨c, rfl, h, rfl, rfl⟩
theorem out18 : Out less18 toks18 0 0 := by
  refine .inr (.inl ⟨by decide, ?_, rfl, rfl⟩)
  have a : Good [108, 101, 115, 115] 1 0 := good_word (by decide)
  have b : Good [108, 111, 119, 101, 115, 116] 1 0 := good_word (by decide)
  have c : Good [48, 46, 48, 49] 3 1 := .inr ⟨by decide, by decide, by decide⟩
  have e1 := lx_good a 0 (40 :: [108, 111, 119, 101, 115, 116] ++ (44 :: 32 :: [48, 46, 48, 49] ++ [41])) (by decide)
  have e2 := lx_good (good_sign (c := 40) (by decide)) 4 ([108, 111, 119, 101, 115, 116] ++ (44 :: 32 :: [48, 46, 48, 49] ++ [41]))
  have e2 := lx_sign 4 40 ([108, 111, 119, 101, 115, 116] ++ (44 :: 32 :: [48, 46, 48, 49] ++ [41])) (by decide) (by decide)
  have e3 := lx_good b 5 (44 :: 32 :: [48, 46, 48, 49] ++ [41]) (by decide)
  have e4 := lx_sign 11 44 (32 :: [48, 46, 48, 49] ++ [41]) (by decide) (by decide)
  have e5 := lx_blank 12 32 ([48, 46, 48, 49] ++ [41]) (by decide)
  have e6 := lx_good c 13 [41] (by decide)
  have e7 := lx_sign 17 41 [] (by decide) (by decide)
  have e8 := lx_nil 18
  show lx 0 ([108, 101, 115, 115] ++ (40 :: [108, 111, 119, 101, 115, 116] ++ (44 :: 32 :: [48, 46, 48, 49] ++ [41]))) = .ok toks18
  rw [e1]
  show pre _ (lx 4 (40 :: ([108, 111, 119, 101, 115, 116] ++ (44 :: 32 :: [48, 46, 48, 49] ++ [41])))) = _
  rw [e2, e3]
  show pre _ (pre _ (pre _ (lx 11 (44 :: (32 :: [48, 46, 48, 49] ++ [41]))))) = _
  rw [e4]
  show pre _ (pre _ (pre _ (pre _ (lx 12 (32 :: ([48, 46, 48, 49] ++ [41])))))) = _
  rw [e5, e6]
  show pre _ (pre _ (pre _ (pre _ (pre _ (lx 17 [41]))))) = _
  rw [e7, e8]
  rfl
theorem out5 : Out [97, 32, 48, 46, 49] [] 61 2 := by
  refine .inr (.inr ⟨by decide, 2, ?_, rfl, rfl, rfl⟩)
  have a : Good [97] 1 0 := good_word (by decide)
  have e1 := lx_step a (b := [32]) (by decide) (by decide) 0 [48, 46, 49]
  have e2 := lx_wrong (x := [48, 46, 49]) (by decide) 2 [] rfl
  show lx 0 ([97] ++ ([32] ++ [48, 46, 49])) = _
  rw [e1]
  show pre _ (lx 2 ([48, 46, 49] ++ [])) = _
  rw [e2]; rfl
theorem facts18 {w : World} {A : Option Addr} (h : ToksAt w A toks18) : ∃ g off, A = some ⟨g, off, none⟩ ∧ w.cell? ⟨g, off, none⟩ = some (.int .i64 1) ∧ w.cell? ⟨g, off + 16, none⟩ = some (.int .i64 3) ∧ w.cell? ⟨g, off + 18, none⟩ = some (.int .i64 1) ∧
    w.cell? ⟨g, off + 13, none⟩ = some (.string ⟨#[44]⟩) ∧ w.cell? ⟨g, off + 27, none⟩ = some (.int .i64 18) := by
  obtain ⟨g, off, e, _, a0, _⟩ := h 0 (by decide)
  obtain ⟨g3, off3, e3, _, _, a3, _⟩ := h 3 (by decide)
  obtain ⟨g4, off4, e4, _, a4, _, b4, _⟩ := h 4 (by decide)
  obtain ⟨g6, off6, e6, _, _, _, _, a6⟩ := h 6 (by decide)
  rw [e] at e3 e4 e6
  cases e3; cases e4; cases e6
  exact ⟨g, off, e, a0, a4, b4, a3, a6⟩
set_option maxHeartbeats 2000000 in
theorem awake_any (H : AllOk) (w0 w : World) (hr : Rel w0 w) :
    Calls Try.prog 9 #[] w fun e w' => e = .returned (.bool true) ∧ Rel w0 w' := by
  have H := Lib.hid H
  have HR := Lib.hid hr
  have O1 : Hid (Out (⟨#[108, 101, 115, 115, 40, 108, 111, 119, 101, 115, 116, 44, 32, 48, 46, 48, 49, 41]⟩ : ByteArray).data.toList toks18 0 0) := Lib.hid out18
  have O2 : Hid (Out (⟨#[97, 32, 48, 46, 49]⟩ : ByteArray).data.toList [] 61 2) := Lib.hid out5
  have l7 : toks18.length = 7 := rfl
  go_enter Try.func9, Try.ntmps9
  go_wp2_with (first
    | (go_at_call 12; (with_reducible refine (lex_is H.out _ _ _ _ O1 (by decide) _ _ HR.out.self).mono ?_); rintro e w1 ⟨A, c, rfl, h1, hT⟩)
    | (go_at_call 12; (with_reducible refine (lex_is H.out _ _ _ _ O2 (by decide) _ _ h1.self).mono ?_); rintro e w2 ⟨A', c', rfl, h2, _⟩; obtain ⟨g, off, rfl, q0, q1, q2, q3, q4⟩ := facts18 (hT.rel h2))
    | (go_at_call 15; (with_reducible refine (name_is H.out ⟨#[97, 49]⟩ true (Lib.hid (by decide)) (by decide) _ _ h2.self).mono ?_); rintro e w3 ⟨rfl, h3⟩)
    | (go_at_call 15; (with_reducible refine (name_is H.out ⟨#[105, 102]⟩ false (Lib.hid (by decide)) (by decide) _ _ h3.self).mono ?_); rintro e w4 ⟨rfl, h4⟩)
    | (go_at_call 17; (with_reducible refine (word_is H.out ⟨#[105, 102]⟩ true (Lib.hid (by decide)) (by decide) _ _ h4.self).mono ?_); rintro e w5 ⟨rfl, h5⟩))
  go_ret
  exact ⟨rfl, ((((HR.out.trans h1).trans h2).trans h3).trans h4).trans h5⟩
end Go.Proofs.Ytodeelbgonkdfaa
