/- The document's own answers of layer 13: is what a source tells newer?; What is scanned: the document's own Lex; The law's raw pieces; Plain mathematics of layer 7: expressions, their texts, sizes and depths. No program in this text; Plain mathematics of layer 7, third part: what is printed is scanned; how long a text is. No program in this text; Plain mathematics of layer 7, fourth part: what the law makes of raw numbers; The law's raw pieces of layer 13: triples of raw numbers, pick, a raw book; The law's raw book, walked; What the program is asked of in layer 13 (BookOk); the law's awake; Plain mathematics of layer 6, third part: what is told one token behind the other, up to an error. No program in this text; DERIVED: THE SHELF's CONTRACTS AT THIS DUMP, IN PLAIN WORDS (tools/lay-plain.mjs out of 'TryShelf.lean', which tools/lay-shelf.mjs wrote): THE SAME DECLARATIONS UNDER THE SAME NAMES: 'import', 'namespace', 'open', 'def', 'theorem' AND NOTHING ELSE: no command of the shelf's: FOR A HAND-IN. Each laying: the table of numbers ('.._ren') and one theorem, a field a fact of the dump's own or the kernel's comparison; each contract: ONE APPLICATION; What the landed package lex tells of bytes, words and names; The landed package book's small ones: within, ticks, a name's copy, a slot's seller. -/
import Derived.Test.YtfplhpkolcgpiaaZL
import Derived.Test.YtfplhpkolcgpiaaZ00
namespace Go.Proofs.Ytfplhpkolcgpiaa
open Go.RowKit Go.Lib
set_option linter.unusedVariables false
set_option linter.unusedSimpArgs false
theorem replN_set {b : List Sn} {y : Sn} {i : Nat} (hi : i < b.length) (he : b[i].1 = y.1) (hk : ∀ k (h : k < b.length), k < i → b[k].1 ≠ y.1) : replN b y = b.set i y := by
  induction b generalizing i with
  | nil => simp at hi
  | cons z r ih =>
    cases i with
    | zero => rw [replN, if_pos (by simpa using he)]; rfl
    | succ i =>
      have h0 := hk 0 (by simp) (by omega)
      rw [replN, if_neg (by simpa using h0), ih (by simpa using hi) (by simpa using he) (fun k h hlt => by have := hk (k + 1) (by simpa using h) (by omega); simpa using this)]
      rfl
theorem seenB_at {b : List Sn} {s : List UInt8} {i : Nat} (hi : i < b.length) (he : b[i].1 = s) (hk : ∀ k (h : k < b.length), k < i → b[k].1 ≠ s) : seenB b s = some b[i].2 := by
  induction b generalizing i with
  | nil => simp at hi
  | cons z r ih =>
    unfold seenB
    cases i with
    | zero => rw [List.find?_cons_of_pos (by simpa using he)]; rfl
    | succ i =>
      have h0 := hk 0 (by simp) (by omega)
      rw [List.find?_cons_of_neg (by simpa using h0)]
      exact ih (by simpa using hi) (by simpa using he) (fun k h hlt => by have := hk (k + 1) (by simpa using h) (by omega); simpa using this)
theorem seenB_none {b : List Sn} {s : List UInt8} (h : ∀ k (hk : k < b.length), b[k].1 ≠ s) : seenB b s = none := by
  unfold seenB
  rw [List.find?_eq_none.2]; · rfl
  intro x hx
  obtain ⟨i, hi, rfl⟩ := List.getElem_of_mem hx
  simpa using h i hi
def frE (l : List Sn) (s : List UInt8) (n : Int) : Int := match freshB l s n with | .ok _ => 0 | .error e => e
def frV (l : List Sn) (s : List UInt8) (n : Int) : List Sn := match freshB l s n with | .ok r => r.1 | .error _ => []
def frI (l : List Sn) (s : List UInt8) (n : Int) : Bool := match freshB l s n with | .ok r => r.2 | .error _ => false
def FrPost (l : List Sn) (s : List UInt8) (n : Int) (w : World) (e : Ending) (w' : World) : Prop := ∃ A2 c2, e = .returned (.tuple #[.slice A2 (frV l s n).length c2, .bool (frI l s n), .int .i64 (frE l s n)]) ∧ SnOwn w' w.heap.size (.slice A2 (frV l s n).length c2) (frV l s n) ∧ Rel w w'
theorem fr_no {l : List Sn} {s : List UInt8} {n : Int} (h : freshOk s n = false) : frV l s n = [] ∧ frI l s n = false ∧ frE l s n = 1 := by
  unfold frV frI frE freshB; rw [h]; exact ⟨rfl, rfl, rfl⟩
theorem fr_set {l : List Sn} {s : List UInt8} {n : Int} (h : freshOk s n = true) {i : Nat} (hi : i < l.length) (he : l[i].1 = s) (hk : ∀ k (h : k < l.length), k < i → l[k].1 ≠ s) (hm : l[i].2 < n) : frV l s n = l.set i (s, n) ∧ frI l s n = true ∧ frE l s n = 0 := by
  unfold frV frI frE freshB
  rw [h, seenB_at hi he hk]
  simp only [if_true, if_pos hm]
  exact ⟨replN_set hi he hk, trivial, trivial⟩
theorem fr_old {l : List Sn} {s : List UInt8} {n : Int} (h : freshOk s n = true) {i : Nat} (hi : i < l.length) (he : l[i].1 = s) (hk : ∀ k (h : k < l.length), k < i → l[k].1 ≠ s) (hm : ¬ l[i].2 < n) : frV l s n = l ∧ frI l s n = false ∧ frE l s n = 0 := by
  unfold frV frI frE freshB
  rw [h, seenB_at hi he hk]
  simp only [if_true, if_neg hm]
  exact ⟨trivial, trivial, trivial⟩
theorem fr_eight {l : List Sn} {s : List UInt8} {n : Int} (h : freshOk s n = true) (hk : ∀ k (h : k < l.length), l[k].1 ≠ s) (h8 : 8 ≤ l.length) : frV l s n = [] ∧ frI l s n = false ∧ frE l s n = 50 := by
  unfold frV frI frE freshB
  rw [h, seenB_none hk]
  simp only [if_true, if_pos h8]
  exact ⟨trivial, trivial, trivial⟩
theorem fr_new {l : List Sn} {s : List UInt8} {n : Int} (h : freshOk s n = true) (hk : ∀ k (h : k < l.length), l[k].1 ≠ s) (h8 : ¬ 8 ≤ l.length) : frV l s n = l ++ [(s, n)] ∧ frI l s n = true ∧ frE l s n = 0 := by
  unfold frV frI frE freshB
  rw [h, seenB_none hk]
  simp only [if_true, if_neg h8]
  exact ⟨trivial, trivial, trivial⟩
end Go.Proofs.Ytfplhpkolcgpiaa

namespace Go.Proofs.Ytfplhpkolcgpiaa
open Go.RowKit Go.Lib
set_option linter.unusedVariables false
set_option linter.unusedSimpArgs false
/-- How far a scan is: at p, behind these tokens. -/
def At (l : List UInt8) (p : Nat) (ts : List Tok) : Prop := lx 0 l = pre ts (lx p (l.drop p)) ∧ ts.length ≤ p
theorem At.start (l : List UInt8) : At l 0 [] := ⟨by rw [pre_nil]; rfl, by simp⟩
theorem TokPost.cases {l : List UInt8} {p : Int} {e : Ending} (h : TokPost l p e) : ∃ (t : Tok) (b : Bool), e = .returned (.tuple #[TK t, .bool b]) ∧ (b = true → ∃ k n, tokOf l = some (k, n) ∧ t = (k, l, n, p)) ∧ (b = false → tokOf l = none) := by
  rcases h with ⟨k, n, h, rfl⟩ | ⟨h, t, rfl⟩
  · exact ⟨_, true, rfl, (fun _ => ⟨k, n, h, rfl⟩), (fun h => by cases h)⟩
  · exact ⟨t, false, rfl, (fun h => by cases h), fun _ => h⟩
end Go.Proofs.Ytfplhpkolcgpiaa

namespace Go.Proofs.Ytfplhpkolcgpiaa
open Go.RowKit Go.Lib
set_option linter.unusedVariables false
set_option linter.unusedSimpArgs false
theorem pick_as (c n y : Int) (h : Hid (pk c n = y)) (hc : -9223372036854775808 ≤ c) (hc' : c ≤ 9223372036854775807) (hn : 0 < n) (hn' : n ≤ 9223372036854775807) (w : World) :
    Calls Try.prog 27 #[.int .i64 c, .int .i64 n] w fun e w' => e = .returned (.int .i64 y) ∧ w = w' := by
  rw [← h.out]; exact pick_any c n hc hc' hn hn' w
theorem decimal_as (n : Int) (S : ByteArray) (h : Hid (B (decDigits n.toNat) = S)) (h0 : 0 ≤ n) (h1 : n ≤ 9223372036854775807) (w0 w : World) (hr : Rel w0 w) :
    Calls Try.prog 28 #[.int .i64 n] w fun e w' => e = .returned (.string S) ∧ Rel w0 w' := by
  rw [← h.out]; exact decimal_any n h0 h1 w0 w hr
def strCells (ls : List (List UInt8)) : Array Value := (ls.map fun l => Value.string (B l)).toArray
theorem str_cell {w : World} {g : Nat} {ls : List (List UInt8)} (h : Bk w g 9 (strCells ls)) (j : Nat) (hj : j < ls.length) : w.cell? ⟨g, j, none⟩ = some (.string (B (ls.getD j []))) := by
  rw [h.cell]
  unfold strCells
  rw [List.getElem?_toArray, List.getElem?_map, List.getElem?_eq_getElem hj, List.getD_eq_getElem?_getD, List.getElem?_eq_getElem hj]
  rfl
theorem nam_cell (w : World) (j : Nat) (hj : j < 6) : (w.alloc (.cells #[.string ⟨#[97]⟩, .string ⟨#[98, 111, 98]⟩, .string ⟨#[108, 111, 119, 101, 115]⟩, .string ⟨#[97, 99, 109, 101, 57]⟩, .string ⟨#[120, 49]⟩, .string ⟨#[101, 108, 115, 101, 101]⟩] 9)).cell? ⟨w.heap.size, j, none⟩ = some (.string (B (theNames.getD j []))) :=
  str_cell (ls := theNames) (Bk.new w 9 (strCells theNames)) j hj
theorem nam_after {w w' : World} (hr : Rel (w.alloc (.cells #[.string ⟨#[97]⟩, .string ⟨#[98, 111, 98]⟩, .string ⟨#[108, 111, 119, 101, 115]⟩, .string ⟨#[97, 99, 109, 101, 57]⟩, .string ⟨#[120, 49]⟩, .string ⟨#[101, 108, 115, 101, 101]⟩] 9)).drew w') (j : Nat) (hj : j < 6) (X : ByteArray) (hX : B (theNames.getD j []) = X) : w'.cell? ⟨w.heap.size, j, none⟩ = some (.string X) := by
  rw [← hX]
  exact str_cell (ls := theNames) (Bk.rel (w := (w.alloc (.cells (strCells theNames) 9)).drew) (Bk.new w 9 (strCells theNames)) hr) j hj
set_option maxHeartbeats 1000000 in
theorem seller_any (n : Int) (h0 : -9223372036854775808 ≤ n) (h1 : n ≤ 9223372036854775807) (w0 w : World) (hr : Rel w0 w) :
    Calls Try.prog 12 #[.int .i64 n] w fun e w' => e = .returned (.string (B (sellerL (pk n 60)))) ∧ Rel w0 w' := by
  have hb := pk_bd n 60 (by omega)
  obtain ⟨u, hu⟩ : ∃ u, pk n 60 = u := ⟨_, rfl⟩
  rw [hu] at hb ⊢
  have HU := Lib.hid hu
  obtain ⟨u0, u1⟩ := hb
  have t6 := tdt u 6 (by omega)
  obtain ⟨a, ha⟩ : ∃ a : Nat, u.tmod 6 = (a : Int) := ⟨(u.tmod 6).toNat, by omega⟩
  obtain ⟨b, hq'⟩ : ∃ b : Nat, u.tdiv 6 = (b : Int) := ⟨(u.tdiv 6).toNat, by omega⟩
  have hq : IntKind.i64.wrap (u.tdiv 6) = (b : Int) := by rw [hq']; exact IntWalk.i64_in _ (by omega)
  have a6 : a < 6 := by omega
  have a6' : (a : Int) < 6 := by omega
  have b9 : (b : Int) ≤ 10 := by omega
  obtain ⟨X, hX⟩ : ∃ X, B (theNames.getD a []) = X := ⟨_, rfl⟩
  have hc := fun w => nam_cell w a a6
  obtain ⟨D, hD⟩ : ∃ D, B (decDigits ((b : Int)).toNat) = D := ⟨_, rfl⟩
  have HD := Lib.hid hD
  have z1 : X.size ≤ 5 := by rw [← hX, B_size]; exact names_len ⟨a, a6⟩
  have z2 : D.size ≤ 19 := by rw [← hD]; exact dd_size _ (by omega)
  have z3 : ¬ 9223372036854775807 < X.size + D.size := by omega
  have HF := Lib.hid (show X ++ D = B (sellerL u) by
    unfold sellerL
    rw [← hX, ← hD, B_append, show u % 6 = (a : Int) by omega, show u / 6 = (b : Int) by omega]; rfl)
  have HX := Lib.hid hX
  rw [hX] at hc
  have HR := Lib.hid hr
  clear hu hX hD t6 hq'
  go_enter Try.func12, Try.ntmps12
  go_wp2_with (go_at_call 27; (with_reducible refine (pick_as n 60 u HU h0 h1 (by omega) (by omega) _).mono ?_); rintro e w' ⟨rfl, rfl⟩)
  have HS := Lib.hid hr.self
  go_region_law (rw [if_pos (by rfl)]; go_simp; go_at_call 28; (with_reducible refine (decimal_as (b : Int) D HD (by omega) (by omega) _ _ (by first | exact HS.out.drew.self | exact (HS.out.drew.alloc _).self | exact ((HS.out.alloc _).drew).self)).mono ?_); rintro e w' ⟨rfl, hr'⟩; try (have cx := nam_after hr' a a6 X HX.out))
  all_goals
    go_wp2_with (fail)
    go_ret
    refine ⟨ret_str HF.out, ?_⟩
    first
      | exact (HR.out.alloc _).drew.trans hr'
      | exact (HR.out.drew.trans hr').alloc _
end Go.Proofs.Ytfplhpkolcgpiaa

namespace Go.Proofs.Ytfplhpkolcgpiaa
open Go.Lib
set_option linter.unusedVariables false
set_option linter.unusedSimpArgs false
/-- An expression: kind, number, name, arguments. -/
inductive Ex where
  | mk (k n : Int) (nm : List UInt8) (l : List Ex)
def Ex.k : Ex → Int | .mk k _ _ _ => k
def Ex.n : Ex → Int | .mk _ n _ _ => n
def Ex.nm : Ex → List UInt8 | .mk _ _ nm _ => nm
def Ex.l : Ex → List Ex | .mk _ _ _ l => l
mutual
def size : Ex → Nat
  | .mk _ _ _ l => 1 + sizes l
def sizes : List Ex → Nat
  | [] => 0
  | x :: t => size x + sizes t
end
end Go.Proofs.Ytfplhpkolcgpiaa

namespace Go.Proofs.Ytfplhpkolcgpiaa
open Go.Lib
set_option linter.unusedVariables false
set_option linter.unusedSimpArgs false
/-- A text is scanned to at least n tokens, whatever stands behind it that is no part. -/
def Sc (a : List UInt8) (n : Nat) : Prop := ∀ p r, stops r = true → ∃ ts, lx p (a ++ r) = pre ts (lx (p + a.length) r) ∧ n ≤ ts.length
theorem Sc.append {a b : List UInt8} {n m : Nat} (ha : Sc a n) (hb : Sc b m) (hs : ∀ r, stops r = true → stops (b ++ r) = true) : Sc (a ++ b) (n + m) := by
  intro p r hr
  obtain ⟨ts, e, h⟩ := ha p (b ++ r) (hs r hr)
  obtain ⟨us, e', h'⟩ := hb (p + a.length) r hr
  refine ⟨ts ++ us, ?_, by rw [List.length_append]; omega⟩
  rw [List.append_assoc, e, e', pre_pre, List.length_append, Nat.add_assoc]
theorem Sc.nil : Sc [] 0 := fun p r _ => ⟨[], by rw [pre_nil]; rfl, Nat.zero_le _⟩
end Go.Proofs.Ytfplhpkolcgpiaa

namespace Go.Proofs.Ytfplhpkolcgpiaa
open Go.RowKit Go.Lib
set_option linter.unusedVariables false
set_option linter.unusedSimpArgs false
theorem seller_name (u : Int) (h0 : 0 ≤ u) (h1 : u < 60) : isName (sellerL u) = true := by
  rw [seller_eq u h0 h1]
  have : ∀ i : Fin 60, isName ((theNames.getD (i.val % 6) []) ++ [UInt8.ofNat (48 + i.val / 6)]) = true := by decide
  exact this ⟨u.toNat, by omega⟩
end Go.Proofs.Ytfplhpkolcgpiaa

namespace Go.Proofs.Ytfplhpkolcgpiaa
open Go.RowKit Go.Lib
set_option linter.unusedVariables false
set_option linter.unusedSimpArgs false
abbrev Tr := Int × Int × Int
def TripsAt (w : World) (A : Option Addr) (zs : List Tr) : Prop :=
  ∀ i (h : i < zs.length), ∃ (a : Addr), A = some a ∧ a.block < w.heap.size ∧ w.cell? (a.add (i * 3)) = some (.int .i64 zs[i].1) ∧ w.cell? (a.add (i * 3 + 1)) = some (.int .i64 zs[i].2.1) ∧ w.cell? (a.add (i * 3 + 2)) = some (.int .i64 zs[i].2.2)
theorem TripsAt.rel {w w' : World} {A : Option Addr} {zs : List Tr} (h : TripsAt w A zs) (hr : Rel w w') : TripsAt w' A zs := by
  intro i hi
  obtain ⟨a, e, hl, h0, h1, h2⟩ := h i hi
  have hk : ∀ j, w'.cell? (a.add j) = w.cell? (a.add j) := fun j => hr.2.cell (p := a.add j) (by rw [block_add]; exact hl)
  exact ⟨a, e, by have := hr.size; omega, by rw [hk]; exact h0, by rw [hk]; exact h1, by rw [hk]; exact h2⟩
def TripsIn (w : World) (A : Option Addr) (n : Nat) (zs : List Tr) : Prop := zs.length = n ∧ n ≤ 9223372036854775807 ∧ (∀ z ∈ zs, in64 z.1 ∧ in64 z.2.1 ∧ in64 z.2.2) ∧ TripsAt w A zs
theorem TripsIn.rel {w w' : World} {A : Option Addr} {n : Nat} {zs : List Tr} (h : TripsIn w A n zs) (hr : Rel w w') : TripsIn w' A n zs := ⟨h.1, h.2.1, h.2.2.1, h.2.2.2.rel hr⟩
theorem pick13_as (c n y : Int) (h : Hid (pk c n = y)) (hc : in64 c) (hn : 0 < n) (hn' : n ≤ 9223372036854775807) (w : World) :
    Calls Try.prog 13 #[.int .i64 c, .int .i64 n] w fun e w' => e = .returned (.int .i64 y) ∧ w = w' := by
  rw [← h.out]
  obtain ⟨h0, h1⟩ := hc
  by_cases h : c < 0
  all_goals
    go_enter Try.func13, Try.ntmps13
    go_wp2
    all_goals
      go_ret
      exact ⟨ret_int (by unfold pk; split <;> first | rfl | omega), rfl⟩
theorem book_fit {b : List Sl} (h : bookOk b) : SlFit b := fun x hx => by
  have h1 := h.2.2 x hx
  unfold putOk at h1
  simp only [Bool.and_eq_true, decide_eq_true_eq] at h1
  have h2 := bname_len h1.1.1
  obtain ⟨⟨_, _, _⟩, _, _⟩ := h1
  refine ⟨by omega, ?_, ?_⟩ <;> unfold in64 <;> omega
theorem BkOwn.arg {w : World} {base : Nat} {A : Option Addr} {c : Nat} {b : List Sl} (h : BkOwn w base (.slice A b.length c) b) (hf : SlFit b) (hl : b.length ≤ 4398046511104) : SlArg w A c b := by
  refine ⟨?_, ⟨?_, ?_⟩, hl, hf, RowOwn.at cl3_len h rfl⟩
  · intro e
    rcases h.2 with ⟨h0, h1⟩ | ⟨g, cap, cur, hv, _⟩
    · injection h0
    · injection hv with hv _ _; rw [e] at hv; cases hv
  · rcases h.2 with ⟨h0, h1⟩ | ⟨g, cap, cur, hv, _, _, hn, _⟩
    · omega
    · injection hv with _ _ hv
      omega
  · obtain ⟨A', c', e, hc⟩ := h.slice_of
    injection e with _ _ e
    omega
theorem BkOwn.arg_ok {w : World} {base : Nat} {A : Option Addr} {c : Nat} {b : List Sl} (h : BkOwn w base (.slice A b.length c) b) (hb : bookOk b) : SlArg w A c b := BkOwn.arg h (book_fit hb) (by have := hb.2.1; omega)
end Go.Proofs.Ytfplhpkolcgpiaa

namespace Go.Proofs.Ytfplhpkolcgpiaa
open Go.RowKit Go.Lib
set_option linter.unusedVariables false
set_option linter.unusedSimpArgs false
theorem put_ok0 {b : List Sl} {s : List UInt8} {p k : Int} (h : bookOk b) (he : putE b s p k = 0) : bookOk (putV b s p k) := by
  cases hp : putB b s p k with
  | ok c =>
    have : putV b s p k = c := by unfold putV; rw [hp]
    rw [this]; exact book_put h hp
  | error e =>
    have : putV b s p k = [] := by unfold putV; rw [hp]
    rw [this]; exact book_nil
end Go.Proofs.Ytfplhpkolcgpiaa

namespace Go.Proofs.Ytfplhpkolcgpiaa
open Go.RowKit Go.Lib
set_option linter.unusedVariables false
set_option linter.unusedSimpArgs false
def KPutOk : Prop := ∀ (b : List Sl) (s : List UInt8) (p k : Int) (A : Option Addr) (c : Nat), s.length ≤ 9223372036854775807 → ∀ w : World, Rel w w → SlArg w A c b → Calls Try.prog 14 #[.slice A b.length c, .string (B s), .int .i64 p, .int .i64 k] w (PutPost b s p k w)
def KDropOk : Prop := ∀ (b : List Sl) (A : Option Addr) (c : Nat) (s : List UInt8) (w : World), s.length ≤ 9223372036854775807 → Rel w w → SlArg w A c b → Calls Try.prog 19 #[.slice A b.length c, .string (B s)] w fun e w' => ∃ A2 c2, e = .returned (.slice A2 (dropB b s).length c2) ∧ BkOwn w' w.heap.size (.slice A2 (dropB b s).length c2) (dropB b s) ∧ Rel w w'
def KExpOk : Prop := ∀ (b : List Sl) (A : Option Addr) (c : Nat) (now most : Int) (w : World), Rel w w → SlArg w A c b → Calls Try.prog 17 #[.slice A b.length c, .int .i64 now, .int .i64 most] w fun e w' => ∃ A2 c2, e = .returned (.slice A2 (expB b now most).length c2) ∧ BkOwn w' w.heap.size (.slice A2 (expB b now most).length c2) (expB b now most) ∧ Rel w w'
def KOffOk : Prop := ∀ (b : List Sl) (A : Option Addr) (c : Nat) (w : World), Rel w w → SlArg w A c b → Calls Try.prog 21 #[.slice A b.length c] w fun e w' => ∃ A2 c2, e = .returned (.slice A2 (offB b).length c2) ∧ FfOwn w' w.heap.size (.slice A2 (offB b).length c2) (offB b) ∧ Rel w w'
def KFreshOk : Prop := ∀ (l : List Sn) (s : List UInt8) (n : Int) (A : Option Addr) (c : Nat), s.length ≤ 9223372036854775807 → ∀ w : World, Rel w w → SnArg w A c l → Calls Try.prog 23 #[.slice A l.length c, .string (B s), .int .i64 n] w (FrPost l s n w)
def BookOk : Prop := KPutOk ∧ KDropOk ∧ KExpOk ∧ KOffOk ∧ KFreshOk
theorem SnOwn.arg {w : World} {base : Nat} {A : Option Addr} {c : Nat} {b : List Sn} (h : SnOwn w base (.slice A b.length c) b) (hf : SnFit b) (hl : b.length * 24 ≤ 140737488355328) : SnArg w A c b := by
  refine ⟨?_, ?_, hl, hf, RowOwn.at cl2_len h rfl⟩
  · intro e
    rcases h.2 with ⟨h0, h1⟩ | ⟨g, cap, cur, hv, _⟩
    · injection h0
    · injection hv with hv _ _; rw [e] at hv; cases hv
  · obtain ⟨A', c', e, hc⟩ := h.slice_of
    injection e with _ _ e
    omega
def nBob : List UInt8 := [98, 111, 98]
def nIf : List UInt8 := [105, 102]
def nAcme : List UInt8 := [97, 99, 109, 101]
def bk0 : List Sl := [(nBob, 499, 3)]
def bk1 : List Sl := [(nBob, 549, 4)]
def sn0 : List Sn := [(nAcme, 5)]
set_option maxRecDepth 100000 in
theorem aw_put0 : putV [] nBob 499 3 = bk0 ∧ putE [] nBob 499 3 = 0 := by decide
set_option maxRecDepth 100000 in
theorem aw_put1 : putV bk0 nBob 549 4 = bk1 ∧ putE bk0 nBob 549 4 = 0 := by decide
set_option maxRecDepth 100000 in
theorem aw_put2 : putV bk0 nIf 1 1 = [] ∧ putE bk0 nIf 1 1 = 1 := by decide
set_option maxRecDepth 100000 in
theorem aw_fr0 : frV [] nAcme 5 = sn0 ∧ frI [] nAcme 5 = true ∧ frE [] nAcme 5 = 0 := by decide
set_option maxRecDepth 100000 in
theorem aw_fr1 : frV sn0 nAcme 5 = sn0 ∧ frI sn0 nAcme 5 = false ∧ frE sn0 nAcme 5 = 0 := by decide
set_option maxRecDepth 100000 in
theorem aw_rest : dropB bk1 nBob = [] ∧ expB bk1 6 1 = [] ∧ expB bk1 5 1 = bk1 := by decide
theorem bk0_ok : bookOk bk0 := by have := put_ok0 book_nil aw_put0.2; rwa [aw_put0.1] at this
theorem bk1_ok : bookOk bk1 := by have := put_ok0 bk0_ok aw_put1.2; rwa [aw_put1.1] at this
theorem sn0_fit : SnFit sn0 := fun x hx => by
  obtain rfl : x = (nAcme, 5) := by simpa [sn0] using hx
  exact ⟨by decide, by unfold in64; omega⟩
set_option maxRecDepth 100000 in
set_option maxHeartbeats 8000000 in
theorem awake13_any (H : BookOk) (w0 w : World) (hr : Rel w0 w) :
    Calls Try.prog 10 #[] w fun e w' => e = .returned (.bool true) ∧ Rel w0 w' := by
  have R0 := Lib.hid hr
  have HH := Lib.hid H
  have P0 := Lib.hid (show Calls Try.prog 14 #[.slice none 0 0, .string ⟨#[98, 111, 98]⟩, .int .i64 499, .int .i64 3] w fun e w' => ∃ A2 c2, e = .returned (.tuple #[.slice A2 1 c2, .int .i64 0]) ∧ SlArg w' A2 c2 bk0 ∧ Rel w w' from by
    have h := H.1 [] nBob 499 3 none 0 (by decide) w hr.self (SlArg.nil w)
    unfold PutPost at h
    rw [aw_put0.1, aw_put0.2] at h
    exact h.mono fun e w' ⟨A, c, he, ho, hr⟩ => ⟨A, c, he, BkOwn.arg_ok ho bk0_ok, hr⟩)
  clear H hr
  go_enter Try.func10, Try.ntmps10
  go_upto_region 2 with (go_at_call 14; (with_reducible refine P0.out.mono ?_); rintro e w1 ⟨A1, c1, rfl, s1, r1⟩)
  have S1 := Lib.hid s1
  have R1 := Lib.hid (R0.out.trans r1)
  have P1 := Lib.hid (show Calls Try.prog 14 #[.slice A1 1 c1, .string ⟨#[98, 111, 98]⟩, .int .i64 549, .int .i64 4] w1 fun e w' => ∃ A2 c2, e = .returned (.tuple #[.slice A2 1 c2, .int .i64 0]) ∧ SlArg w' A2 c2 bk1 ∧ Rel w1 w' from by
    have h := HH.out.1 bk0 nBob 549 4 A1 c1 (by decide) w1 r1.self s1
    unfold PutPost at h
    rw [aw_put1.1, aw_put1.2] at h
    exact h.mono fun e w' ⟨A, c, he, ho, hr⟩ => ⟨A, c, he, BkOwn.arg_ok ho bk1_ok, hr⟩)
  clear s1 r1
  go_upto_region 3 with (go_at_call 14; (with_reducible refine P1.out.mono ?_); rintro e w2 ⟨A2, c2, rfl, s2, r2⟩)
  have S2 := Lib.hid s2
  have R2 := Lib.hid (R1.out.trans r2)
  have P2 := Lib.hid (show Calls Try.prog 14 #[.slice A1 1 c1, .string ⟨#[105, 102]⟩, .int .i64 1, .int .i64 1] w2 fun e w' => ∃ A2 c2, e = .returned (.tuple #[.slice A2 0 c2, .int .i64 1]) ∧ Rel w2 w' from by
    have h := HH.out.1 bk0 nIf 1 1 A1 c1 (by decide) w2 r2.self (S1.out.rel r2)
    unfold PutPost at h
    rw [aw_put2.1, aw_put2.2] at h
    exact h.mono fun e w' ⟨A, c, he, ho, hr⟩ => ⟨A, c, he, hr⟩)
  clear s2 r2
  go_upto_region 4 with (go_at_call 14; (with_reducible refine P2.out.mono ?_); rintro e w3 ⟨A3, c3, rfl, r3⟩)
  have S3 := Lib.hid (S2.out.rel r3)
  have R3 := Lib.hid (R2.out.trans r3)
  have P3 := Lib.hid (show Calls Try.prog 23 #[.slice none 0 0, .string ⟨#[97, 99, 109, 101]⟩, .int .i64 5] w3 fun e w' => ∃ A2 c2, e = .returned (.tuple #[.slice A2 1 c2, .bool true, .int .i64 0]) ∧ SnArg w' A2 c2 sn0 ∧ Rel w3 w' from by
    have h := HH.out.2.2.2.2 [] nAcme 5 none 0 (by decide) w3 r3.self (SnArg.nil w3)
    unfold FrPost at h
    rw [aw_fr0.1, aw_fr0.2.1, aw_fr0.2.2] at h
    exact h.mono fun e w' ⟨A, c, he, ho, hr⟩ => ⟨A, c, he, SnOwn.arg ho sn0_fit (by decide), hr⟩)
  clear r3
  go_upto_region 5 with (go_at_call 23; (with_reducible refine P3.out.mono ?_); rintro e w4 ⟨A4, c4, rfl, s4, r4⟩)
  have S4 := Lib.hid (S3.out.rel r4)
  have R4 := Lib.hid (R3.out.trans r4)
  have P4 := Lib.hid (show Calls Try.prog 23 #[.slice A4 1 c4, .string ⟨#[97, 99, 109, 101]⟩, .int .i64 5] w4 fun e w' => ∃ A2 c2, e = .returned (.tuple #[.slice A2 1 c2, .bool false, .int .i64 0]) ∧ Rel w4 w' from by
    have h := HH.out.2.2.2.2 sn0 nAcme 5 A4 c4 (by decide) w4 r4.self s4
    unfold FrPost at h
    rw [aw_fr1.1, aw_fr1.2.1, aw_fr1.2.2] at h
    exact h.mono fun e w' ⟨A, c, he, ho, hr⟩ => ⟨A, c, he, hr⟩)
  clear s4 r4
  go_upto_region 6 with (go_at_call 23; (with_reducible refine P4.out.mono ?_); rintro e w5 ⟨A5, c5, rfl, r5⟩)
  have S5 := Lib.hid (S4.out.rel r5)
  have R5 := Lib.hid (R4.out.trans r5)
  have Q5 := Lib.hid r5.self
  clear r5
  obtain ⟨g, off, x, rfl, _, hx, k0, k1, k2⟩ := slot_at S5.out.2.2.2.2 Q5.out 0 (by decide)
  have hx : x = (nBob, 549, 4) := hx.symm
  subst hx
  rw [Nat.zero_mul, Nat.add_zero] at k0 k1 k2
  replace k0 : w5.cell? ⟨g, off, none⟩ = some (.string ⟨#[98, 111, 98]⟩) := k0
  replace k1 : w5.cell? ⟨g, off + 1, none⟩ = some (.int .i64 549) := k1
  replace k2 : w5.cell? ⟨g, off + 2, none⟩ = some (.int .i64 4) := k2
  have EQ := fun W => slot_is (nBob, 549, 4) (nBob, 549, 4) ⟨#[98, 111, 98]⟩ ⟨#[98, 111, 98]⟩ 549 4 549 4 ⟨rfl, rfl, rfl⟩ ⟨rfl, rfl, rfl⟩ W
  rw [decide_eq_true rfl] at EQ
  have D0 := Lib.hid (fun (W : World) (h : Rel w5 W) => show Calls Try.prog 19 #[.slice (some ⟨g, off, none⟩) 1 c2, .string ⟨#[98, 111, 98]⟩] W (fun e w' => ∃ A2 c2, e = .returned (.slice A2 0 c2) ∧ Rel w5 w') from by
    have h1 := HH.out.2.1 bk1 (some ⟨g, off, none⟩) c2 nBob W (by decide) h.self (S5.out.rel h)
    rw [aw_rest.1] at h1
    exact h1.mono fun e w' ⟨A, c, he, _, hr⟩ => ⟨A, c, he, h.trans hr⟩)
  have D1 := Lib.hid (fun (W : World) (h : Rel w5 W) => show Calls Try.prog 17 #[.slice (some ⟨g, off, none⟩) 1 c2, .int .i64 6, .int .i64 1] W (fun e w' => ∃ A2 c2, e = .returned (.slice A2 0 c2) ∧ Rel w5 w') from by
    have h1 := HH.out.2.2.1 bk1 (some ⟨g, off, none⟩) c2 6 1 W h.self (S5.out.rel h)
    rw [aw_rest.2.1] at h1
    exact h1.mono fun e w' ⟨A, c, he, _, hr⟩ => ⟨A, c, he, h.trans hr⟩)
  have D2 := Lib.hid (fun (W : World) (h : Rel w5 W) => show Calls Try.prog 17 #[.slice (some ⟨g, off, none⟩) 1 c2, .int .i64 5, .int .i64 1] W (fun e w' => ∃ A2 c2, e = .returned (.slice A2 1 c2) ∧ Rel w5 w') from by
    have h1 := HH.out.2.2.1 bk1 (some ⟨g, off, none⟩) c2 5 1 W h.self (S5.out.rel h)
    rw [aw_rest.2.2] at h1
    exact h1.mono fun e w' ⟨A, c, he, _, hr⟩ => ⟨A, c, he, h.trans hr⟩)
  have D3 := Lib.hid (fun (W : World) (h : Rel w5 W) => show Calls Try.prog 21 #[.slice (some ⟨g, off, none⟩) 1 c2] W (fun e w' => ∃ A2 c2, e = .returned (.slice A2 1 c2) ∧ Rel w5 w') from by
    have h1 := HH.out.2.2.2.1 bk1 (some ⟨g, off, none⟩) c2 W h.self (S5.out.rel h)
    exact h1.mono fun e w' ⟨A, c, he, _, hr⟩ => ⟨A, c, he, h.trans hr⟩)
  go_wp2_with (first
    | (go_at_call 19; (with_reducible refine (D0.out _ Q5.out).mono ?_); rintro e w6 ⟨A6, c6, rfl, r6⟩)
    | (go_at_call 17; (with_reducible refine (D1.out _ r6).mono ?_); rintro e w7 ⟨A7, c7, rfl, r7⟩)
    | (go_at_call 17; (with_reducible refine (D2.out _ r7).mono ?_); rintro e w8 ⟨A8, c8, rfl, r8⟩)
    | (go_at_call 21; (with_reducible refine (D3.out _ r8).mono ?_); rintro e w9 ⟨A9, c9, rfl, r9⟩))
  go_ret
  exact ⟨rfl, R5.out.trans r9⟩
end Go.Proofs.Ytfplhpkolcgpiaa

namespace Go.Proofs.Ytfplhpkolcgpiaa
open Go.Lib
set_option linter.unusedVariables false
set_option linter.unusedSimpArgs false
/-- The tokens ahead of an error, or all; the place of the error. -/
def lxP (p : Nat) (l : List UInt8) : List Tok × Option Nat :=
  match l with
  | [] => ([(5, [], 0, (p : Int))], none)
  | c :: t =>
    if isBl c then lxP (p + 1) t
    else if isSg c then ((4, [c], 0, (p : Int)) :: (lxP (p + 1) t).1, (lxP (p + 1) t).2)
    else
      match h : tokOf ((c :: t).takeWhile isPt) with
      | none => ([], some p)
      | some kn => ((kn.1, (c :: t).takeWhile isPt, kn.2, (p : Int)) :: (lxP (p + ((c :: t).takeWhile isPt).length) ((c :: t).dropWhile isPt)).1, (lxP (p + ((c :: t).takeWhile isPt).length) ((c :: t).dropWhile isPt)).2)
  termination_by l.length
  decreasing_by
    all_goals simp_wf
    all_goals
      have h1 := tokOf_ne (k := kn.1) (n := kn.2) h
      have h2 := run_len (c :: t)
      have h3 : 1 ≤ ((c :: t).takeWhile isPt).length := by
        rcases hx : (c :: t).takeWhile isPt with _ | ⟨a, b⟩
        · exact absurd hx h1
        · simp
      simp at h2 h3 ⊢
      omega
/-- How far a scan is that tells one token behind the other. -/
def AtP (l : List UInt8) (p : Nat) (ts : List Tok) : Prop := lxP 0 l = (ts ++ (lxP p (l.drop p)).1, (lxP p (l.drop p)).2) ∧ ts.length ≤ p
theorem AtP.start (l : List UInt8) : AtP l 0 [] := ⟨rfl, Nat.le_refl _⟩
end Go.Proofs.Ytfplhpkolcgpiaa

namespace Go.Proofs
open Go.Shelf
def Try.laysM316_ren : Go.Shelf.Ren := ⟨fun | 316 => 53 | n => n, fun | 9 => 9 | 3 => 3 | 4 => 4 | 37 => 77 | 0 => 0 | 127 => 89 | 5 => 5 | n => n, fun | n => n⟩
theorem Try.laysM316 : Go.Proofs.LaysM.n316 Try.prog Try.laysM316_ren := {
  mixed := by kernel_rfl
  f316 := Try.func53.trans (congrArg some (by kernel_rfl))
  t0 := Try.underlying0
  a0 := Try.isAgg0
  z0 := Try.sizeOf0
  v0 := Try.zeroValue0
  t3 := Try.underlying3
  a3 := Try.isAgg3
  z3 := Try.sizeOf3
  v3 := Try.zeroValue3
  t4 := Try.underlying4
  a4 := Try.isAgg4
  z4 := Try.sizeOf4
  v4 := Try.zeroValue4
  t9 := Try.underlying9
  a9 := Try.isAgg9
  z9 := Try.sizeOf9
  v9 := Try.zeroValue9
  t37 := Try.underlying77
  a37 := Try.isAgg77
  z37 := Try.sizeOf77
  v37 := Try.zeroValue77
  t127 := Try.underlying89
  a127 := Try.isAgg89
  z127 := Try.sizeOf89
  v127 := Try.zeroValue89
  t5 := Try.underlying5
  a5 := Try.isAgg5
  z5 := Try.sizeOf5
  v5 := Try.zeroValue5
  i0 := by kernel_rfl
  i3 := by kernel_rfl
  i4 := by kernel_rfl
  i5 := by kernel_rfl
  i9 := by kernel_rfl
  i37 := by kernel_rfl
  i127 := by kernel_rfl }
open Go.RowKit in
/-- internal/stringslite.Clone (what strings.Clone calls): "Clone returns a fresh copy of s.": THE SAME BYTES. Of what was there nothing has turned (a new row is laid, and frozen, where s is not empty). (LAID: no walk: one application.) -/
theorem Try.stringslite_Clone (s : ByteArray) (w : World) (hlim : s.size ≤ 281474976710656) :
    Calls Try.prog 53 #[.string s] w fun e w' => e = .returned (.string s) ∧ Below w.heap.size w w' := Any.stringslite_Clone Try.laysM316 s w hlim
end Go.Proofs

namespace Go.Proofs.Ytfplhpkolcgpiaa
open Go.RowKit Go.Lib
set_option linter.unusedVariables false
set_option linter.unusedSimpArgs false
theorem lletter_any (c : UInt8) (w : World) : Calls Try.prog 49 #[.int .u8 (c.toNat : Int)] w fun e w' => e = .returned (.bool (isL c)) ∧ w = w' := by
  by_cases h1 : 97 ≤ c.toNat <;> by_cases h2 : c.toNat ≤ 122
  all_goals
    go_enter Try.func49, Try.ntmps49
    go_wp2
    all_goals
      go_ret
      exact ⟨ret_bool (Bool.eq_iff_iff.2 (by simp [isL]; omega)), rfl⟩
theorem ldigit_any (c : UInt8) (w : World) : Calls Try.prog 51 #[.int .u8 (c.toNat : Int)] w fun e w' => e = .returned (.bool (isD c)) ∧ w = w' := by
  by_cases h1 : 48 ≤ c.toNat <;> by_cases h2 : c.toNat ≤ 57
  all_goals
    go_enter Try.func51, Try.ntmps51
    go_wp2
    all_goals
      go_ret
      exact ⟨ret_bool (Bool.eq_iff_iff.2 (by simp [isD]; omega)), rfl⟩
theorem lit_eq {s : ByteArray} {l : List UInt8} (h : B l = s) : (s.toList == l) = true := by have := list_of.2 h.symm; rwa [B_toList] at this
theorem lit_ne {s : ByteArray} {l : List UInt8} (h : ¬ B l = s) : (s.toList == l) = false := by have := list_ne (fun e => h e.symm); rwa [B_toList] at this
theorem word_ways (s : ByteArray) :
    ((s.toList == [108, 111, 119, 101, 115, 116]) = true ∧ isWord s.data.toList = true) ∨
    ((s.toList == [108, 111, 119, 101, 115, 116]) = false ∧ (s.toList == [115, 101, 99, 111, 110, 100]) = true ∧ isWord s.data.toList = true) ∨
    ((s.toList == [108, 111, 119, 101, 115, 116]) = false ∧ (s.toList == [115, 101, 99, 111, 110, 100]) = false ∧ (s.toList == [102, 114, 111, 109]) = true ∧ isWord s.data.toList = true) ∨
    ((s.toList == [108, 111, 119, 101, 115, 116]) = false ∧ (s.toList == [115, 101, 99, 111, 110, 100]) = false ∧ (s.toList == [102, 114, 111, 109]) = false ∧ (s.toList == [108, 101, 115, 115]) = true ∧ isWord s.data.toList = true) ∨
    ((s.toList == [108, 111, 119, 101, 115, 116]) = false ∧ (s.toList == [115, 101, 99, 111, 110, 100]) = false ∧ (s.toList == [102, 114, 111, 109]) = false ∧ (s.toList == [108, 101, 115, 115]) = false ∧ (s.toList == [99, 117, 116]) = true ∧ isWord s.data.toList = true) ∨
    ((s.toList == [108, 111, 119, 101, 115, 116]) = false ∧ (s.toList == [115, 101, 99, 111, 110, 100]) = false ∧ (s.toList == [102, 114, 111, 109]) = false ∧ (s.toList == [108, 101, 115, 115]) = false ∧ (s.toList == [99, 117, 116]) = false ∧ (s.toList == [109, 105, 110]) = true ∧ isWord s.data.toList = true) ∨
    ((s.toList == [108, 111, 119, 101, 115, 116]) = false ∧ (s.toList == [115, 101, 99, 111, 110, 100]) = false ∧ (s.toList == [102, 114, 111, 109]) = false ∧ (s.toList == [108, 101, 115, 115]) = false ∧ (s.toList == [99, 117, 116]) = false ∧ (s.toList == [109, 105, 110]) = false ∧ (s.toList == [109, 97, 120]) = true ∧ isWord s.data.toList = true) ∨
    ((s.toList == [108, 111, 119, 101, 115, 116]) = false ∧ (s.toList == [115, 101, 99, 111, 110, 100]) = false ∧ (s.toList == [102, 114, 111, 109]) = false ∧ (s.toList == [108, 101, 115, 115]) = false ∧ (s.toList == [99, 117, 116]) = false ∧ (s.toList == [109, 105, 110]) = false ∧ (s.toList == [109, 97, 120]) = false ∧ (s.toList == [101, 108, 115, 101]) = true ∧ isWord s.data.toList = true) ∨
    ((s.toList == [108, 111, 119, 101, 115, 116]) = false ∧ (s.toList == [115, 101, 99, 111, 110, 100]) = false ∧ (s.toList == [102, 114, 111, 109]) = false ∧ (s.toList == [108, 101, 115, 115]) = false ∧ (s.toList == [99, 117, 116]) = false ∧ (s.toList == [109, 105, 110]) = false ∧ (s.toList == [109, 97, 120]) = false ∧ (s.toList == [101, 108, 115, 101]) = false ∧ (s.toList == [105, 102]) = true ∧ isWord s.data.toList = true) ∨
    ((s.toList == [108, 111, 119, 101, 115, 116]) = false ∧ (s.toList == [115, 101, 99, 111, 110, 100]) = false ∧ (s.toList == [102, 114, 111, 109]) = false ∧ (s.toList == [108, 101, 115, 115]) = false ∧ (s.toList == [99, 117, 116]) = false ∧ (s.toList == [109, 105, 110]) = false ∧ (s.toList == [109, 97, 120]) = false ∧ (s.toList == [101, 108, 115, 101]) = false ∧ (s.toList == [105, 102]) = false ∧ (s.toList == [109, 111, 114, 101]) = true ∧ isWord s.data.toList = true) ∨
    ((s.toList == [108, 111, 119, 101, 115, 116]) = false ∧ (s.toList == [115, 101, 99, 111, 110, 100]) = false ∧ (s.toList == [102, 114, 111, 109]) = false ∧ (s.toList == [108, 101, 115, 115]) = false ∧ (s.toList == [99, 117, 116]) = false ∧ (s.toList == [109, 105, 110]) = false ∧ (s.toList == [109, 97, 120]) = false ∧ (s.toList == [101, 108, 115, 101]) = false ∧ (s.toList == [105, 102]) = false ∧ (s.toList == [109, 111, 114, 101]) = false ∧ (s.toList == [97, 98, 111, 118, 101]) = true ∧ isWord s.data.toList = true) ∨
    ((s.toList == [108, 111, 119, 101, 115, 116]) = false ∧ (s.toList == [115, 101, 99, 111, 110, 100]) = false ∧ (s.toList == [102, 114, 111, 109]) = false ∧ (s.toList == [108, 101, 115, 115]) = false ∧ (s.toList == [99, 117, 116]) = false ∧ (s.toList == [109, 105, 110]) = false ∧ (s.toList == [109, 97, 120]) = false ∧ (s.toList == [101, 108, 115, 101]) = false ∧ (s.toList == [105, 102]) = false ∧ (s.toList == [109, 111, 114, 101]) = false ∧ (s.toList == [97, 98, 111, 118, 101]) = false ∧ isWord s.data.toList = false) := by
  by_cases h0 : B [108, 111, 119, 101, 115, 116] = s
  · exact .inl ⟨lit_eq h0, word_yes (j := 0) (by omega) h0⟩
  by_cases h1 : B [115, 101, 99, 111, 110, 100] = s
  · exact .inr (.inl ⟨lit_ne h0, lit_eq h1, word_yes (j := 1) (by omega) h1⟩)
  by_cases h2 : B [102, 114, 111, 109] = s
  · exact .inr (.inr (.inl ⟨lit_ne h0, lit_ne h1, lit_eq h2, word_yes (j := 2) (by omega) h2⟩))
  by_cases h3 : B [108, 101, 115, 115] = s
  · exact .inr (.inr (.inr (.inl ⟨lit_ne h0, lit_ne h1, lit_ne h2, lit_eq h3, word_yes (j := 3) (by omega) h3⟩)))
  by_cases h4 : B [99, 117, 116] = s
  · exact .inr (.inr (.inr (.inr (.inl ⟨lit_ne h0, lit_ne h1, lit_ne h2, lit_ne h3, lit_eq h4, word_yes (j := 4) (by omega) h4⟩))))
  by_cases h5 : B [109, 105, 110] = s
  · exact .inr (.inr (.inr (.inr (.inr (.inl ⟨lit_ne h0, lit_ne h1, lit_ne h2, lit_ne h3, lit_ne h4, lit_eq h5, word_yes (j := 5) (by omega) h5⟩)))))
  by_cases h6 : B [109, 97, 120] = s
  · exact .inr (.inr (.inr (.inr (.inr (.inr (.inl ⟨lit_ne h0, lit_ne h1, lit_ne h2, lit_ne h3, lit_ne h4, lit_ne h5, lit_eq h6, word_yes (j := 6) (by omega) h6⟩))))))
  by_cases h7 : B [101, 108, 115, 101] = s
  · exact .inr (.inr (.inr (.inr (.inr (.inr (.inr (.inl ⟨lit_ne h0, lit_ne h1, lit_ne h2, lit_ne h3, lit_ne h4, lit_ne h5, lit_ne h6, lit_eq h7, word_yes (j := 7) (by omega) h7⟩)))))))
  by_cases h8 : B [105, 102] = s
  · exact .inr (.inr (.inr (.inr (.inr (.inr (.inr (.inr (.inl ⟨lit_ne h0, lit_ne h1, lit_ne h2, lit_ne h3, lit_ne h4, lit_ne h5, lit_ne h6, lit_ne h7, lit_eq h8, word_yes (j := 8) (by omega) h8⟩))))))))
  by_cases h9 : B [109, 111, 114, 101] = s
  · exact .inr (.inr (.inr (.inr (.inr (.inr (.inr (.inr (.inr (.inl ⟨lit_ne h0, lit_ne h1, lit_ne h2, lit_ne h3, lit_ne h4, lit_ne h5, lit_ne h6, lit_ne h7, lit_ne h8, lit_eq h9, word_yes (j := 9) (by omega) h9⟩)))))))))
  by_cases h10 : B [97, 98, 111, 118, 101] = s
  · exact .inr (.inr (.inr (.inr (.inr (.inr (.inr (.inr (.inr (.inr (.inl ⟨lit_ne h0, lit_ne h1, lit_ne h2, lit_ne h3, lit_ne h4, lit_ne h5, lit_ne h6, lit_ne h7, lit_ne h8, lit_ne h9, lit_eq h10, word_yes (j := 10) (by omega) h10⟩))))))))))
  exact .inr (.inr (.inr (.inr (.inr (.inr (.inr (.inr (.inr (.inr (.inr (⟨lit_ne h0, lit_ne h1, lit_ne h2, lit_ne h3, lit_ne h4, lit_ne h5, lit_ne h6, lit_ne h7, lit_ne h8, lit_ne h9, lit_ne h10, word_no (fun j hj => by
    rcases j with _|_|_|_|_|_|_|_|_|_|_|j
    · exact h0
    · exact h1
    · exact h2
    · exact h3
    · exact h4
    · exact h5
    · exact h6
    · exact h7
    · exact h8
    · exact h9
    · exact h10
    · omega)⟩)))))))))))
set_option maxHeartbeats 1000000 in
theorem lword_any (s : ByteArray) (w0 w : World) (hr : Rel w0 w) :
    Calls Try.prog 50 #[.string s] w fun e w' => e = .returned (.bool (isWord s.data.toList)) ∧ Rel w0 w' := by
  rcases word_ways s with ⟨k0, hw⟩ | ⟨k0, k1, hw⟩ | ⟨k0, k1, k2, hw⟩ | ⟨k0, k1, k2, k3, hw⟩ | ⟨k0, k1, k2, k3, k4, hw⟩ | ⟨k0, k1, k2, k3, k4, k5, hw⟩ | ⟨k0, k1, k2, k3, k4, k5, k6, hw⟩ | ⟨k0, k1, k2, k3, k4, k5, k6, k7, hw⟩ | ⟨k0, k1, k2, k3, k4, k5, k6, k7, k8, hw⟩ | ⟨k0, k1, k2, k3, k4, k5, k6, k7, k8, k9, hw⟩ | ⟨k0, k1, k2, k3, k4, k5, k6, k7, k8, k9, k10, hw⟩ | ⟨k0, k1, k2, k3, k4, k5, k6, k7, k8, k9, k10, hw⟩
  all_goals
    have HW := Lib.hid hw
    clear hw
    go_enter Try.func50, Try.ntmps50
    go_wp2_with (fail)
    go_ret
    exact ⟨ret_bool HW.out.symm, hr⟩
set_option maxHeartbeats 1000000 in
theorem lname_list (l : List UInt8) (hl : l.length ≤ 9223372036854775807) (w0 w : World) (hr : Rel w0 w) :
    Calls Try.prog 29 #[.string (B l)] w fun e w' => e = .returned (.bool (isName l)) ∧ Rel w0 w' := by
  cases l with
  | nil =>
    have HT := B_toList []
    go_enter Try.func29, Try.ntmps29
    go_wp2_with (fail)
    go_ret
    exact ⟨ret_bool rfl, hr⟩
  | cons c t =>
    have HT := B_toList (c :: t)
    have HB := B_cons_size c t
    have H0 := B_zero c t
    by_cases h12 : t.length + 1 ≤ 12
    · have z : ¬ (12 : Int) < (t.length : Int) + 1 := by omega
      cases hc : isL c
      · have HF := Lib.hid (show isName (c :: t) = false by rw [name_eq, hc]; simp)
        clear hl h12
        go_enter Try.func29, Try.ntmps29
        go_wp2_with (go_at_call 49; (with_reducible refine (bool_at false (lletter_any c _) (Lib.hid hc)).mono ?_); rintro e w' ⟨rfl, rfl⟩)
        go_ret
        exact ⟨ret_bool HF.out.symm, hr⟩
      · cases hw : isWord (c :: t)
        · have HC := Lib.hid hc
          have HWd := Lib.hid (show isWord (B (c :: t)).data.toList = false by rw [B_list]; exact hw)
          have HW0 := Lib.hid hw
          have HR := Lib.hid hr
          clear hw hc
          go_enter Try.func29, Try.ntmps29
          go_wp2_with (first
            | (go_at_call 49; (with_reducible refine (bool_at true (lletter_any c _) HC).mono ?_); rintro e w' ⟨rfl, rfl⟩)
            | (go_at_call 50; (with_reducible refine (bool_at false (lword_any _ _ _ hr.self) HWd).mono ?_); rintro e w1 ⟨rfl, h1⟩))
          go_loopw [3, 23] (fun _ i wr => ∃ j : Nat, j ≤ t.length + 1 ∧ i = .int .i64 j ∧ Hid (((c :: t).take j).all LD = true) ∧ wr = w1) (fun _ i _ => t.length + 1 - (RowKit.intOf i).toNat)
          case atStart => exact ⟨0, by omega, rfl, Lib.hid rfl, rfl⟩
          case round =>
            obtain ⟨j, hj, rfl, HA, rfl⟩ := hrel
            by_cases hlt : j < t.length + 1
            · have hlt' : j < (c :: t).length := by simpa using hlt
              obtain ⟨x, hx⟩ : ∃ x, x = (c :: t)[j] := ⟨_, rfl⟩
              have hg : ∀ h, (B (c :: t))[j]'h = x := fun h => by rw [hx]; rfl
              have HX := Lib.hid hx
              clear hx
              cases hL : isL x <;> cases hD : isD x
              · have HF := Lib.hid (show isName (c :: t) = false by rw [name_eq, all_bad j hlt' (by rw [← HX.out]; simp [LD, hL, hD])]; simp)
                have HL := Lib.hid hL
                have HD := Lib.hid hD
                clear hL hD
                go_wp2_with (first
                  | (go_at_call 49; (with_reducible refine (bool_at false (lletter_any x _) HL).mono ?_); rintro e w' ⟨rfl, rfl⟩)
                  | (go_at_call 51; (with_reducible refine (bool_at false (ldigit_any x _) HD).mono ?_); rintro e w' ⟨rfl, rfl⟩))
                go_ret
                exact ⟨ret_bool HF.out.symm, HR.out.trans h1⟩
              all_goals
                have HM := Lib.hid (all_more j hlt' HA.out (by rw [← HX.out]; simp [LD, hL, hD]))
                have HL := Lib.hid hL
                have HD := Lib.hid hD
                clear hL hD
                go_wp2_with (first
                  | (go_at_call 49; (with_reducible refine (bool_at _ (lletter_any x _) HL).mono ?_); rintro e w' ⟨rfl, rfl⟩)
                  | (go_at_call 51; (with_reducible refine (bool_at _ (ldigit_any x _) HD).mono ?_); rintro e w' ⟨rfl, rfl⟩))
                go_roundw
                case rel => exact ⟨j + 1, by omega, by go_num, HM, trivial⟩
                case measure => simp [RowKit.intOf]; omega
            · obtain rfl : j = t.length + 1 := by omega
              have HY := Lib.hid (show isName (c :: t) = true by
                have ha := HA.out
                rw [List.take_of_length_le (by simp)] at ha
                rw [name_eq, ha, HC.out, HW0.out, decide_eq_true h12]; rfl)
              go_wp2_with (fail)
              go_ret
              exact ⟨ret_bool HY.out.symm, HR.out.trans h1⟩
        · have HC := Lib.hid hc
          have HWd := Lib.hid (show isWord (B (c :: t)).data.toList = true by rw [B_list]; exact hw)
          have HF := Lib.hid (show isName (c :: t) = false by rw [name_eq, hw]; simp)
          clear hw hc
          go_enter Try.func29, Try.ntmps29
          go_wp2_with (first
            | (go_at_call 49; (with_reducible refine (bool_at true (lletter_any c _) HC).mono ?_); rintro e w' ⟨rfl, rfl⟩)
            | (go_at_call 50; (with_reducible refine (bool_at true (lword_any _ _ _ hr.self) HWd).mono ?_); rintro e w1 ⟨rfl, h1⟩))
          go_ret
          exact ⟨ret_bool HF.out.symm, hr.trans h1⟩
    · have HF := Lib.hid (show isName (c :: t) = false by rw [name_eq, decide_eq_false h12]; simp)
      have z : (12 : Int) < (t.length : Int) + 1 := by omega
      clear h12
      go_enter Try.func29, Try.ntmps29
      go_wp2_with (fail)
      go_ret
      exact ⟨ret_bool HF.out.symm, hr⟩
end Go.Proofs.Ytfplhpkolcgpiaa

namespace Go.Proofs.Ytfplhpkolcgpiaa
open Go.RowKit Go.Lib
set_option linter.unusedVariables false
set_option linter.unusedSimpArgs false
def clampF (n l h : Int) : Int := max l (min n h)
theorem clamp_any (n l h : Int) (w : World) : Calls Try.prog 52 #[.int .i64 n, .int .i64 l, .int .i64 h] w fun e w' => e = .returned (.int .i64 (clampF n l h)) ∧ w = w' := by
  by_cases h1 : h < n <;> by_cases h2 : h < l <;> by_cases h3 : n < l
  all_goals
    go_enter Try.func52, Try.ntmps52
    go_wp2
    all_goals
      go_ret
      exact ⟨ret_int (by unfold clampF; omega), rfl⟩
theorem clamp_as (n l h c : Int) (hc : Hid (clampF n l h = c)) (w : World) : Calls Try.prog 52 #[.int .i64 n, .int .i64 l, .int .i64 h] w fun e w' => e = .returned (.int .i64 c) ∧ w = w' := by
  rw [← hc.out]; exact clamp_any n l h w
theorem bwithin_any (n l h : Int) (hlh : l ≤ h) (w : World) : Calls Try.prog 30 #[.int .i64 n, .int .i64 l, .int .i64 h] w fun e w' => e = .returned (.bool (decide (l ≤ n ∧ n ≤ h))) ∧ w = w' := by
  obtain ⟨c, hc⟩ : ∃ c, clampF n l h = c := ⟨_, rfl⟩
  have HC := Lib.hid hc
  by_cases e : c = n
  · have b0 : (c == n) = true := by simpa using e
    have HD := Lib.hid (show decide (l ≤ n ∧ n ≤ h) = true from decide_eq_true (by unfold clampF at hc; omega))
    clear e hc
    go_enter Try.func30, Try.ntmps30
    go_wp2_with (go_at_call 52; (with_reducible refine (clamp_as n l h c HC _).mono ?_); rintro e w' ⟨rfl, rfl⟩)
    go_ret
    exact ⟨ret_bool (by rw [HD.out]), rfl⟩
  · have b0 : (c == n) = false := by simpa using e
    have HD := Lib.hid (show decide (l ≤ n ∧ n ≤ h) = false from decide_eq_false (by unfold clampF at hc; omega))
    clear e hc
    go_enter Try.func30, Try.ntmps30
    go_wp2_with (go_at_call 52; (with_reducible refine (clamp_as n l h c HC _).mono ?_); rintro e w' ⟨rfl, rfl⟩)
    go_ret
    exact ⟨ret_bool (by rw [HD.out]), rfl⟩
theorem bwithin_as (n l h : Int) (q : Bool) (hlh : l ≤ h) (hq : Hid (decide (l ≤ n ∧ n ≤ h) = q)) (w : World) : Calls Try.prog 30 #[.int .i64 n, .int .i64 l, .int .i64 h] w fun e w' => e = .returned (.bool q) ∧ w = w' := by
  rw [← hq.out]; exact bwithin_any n l h hlh w
theorem astick_any (n : Int) (w : World) : Calls Try.prog 57 #[.int .i64 n] w fun e w' => e = .returned (.int .i64 (tickF n)) ∧ w = w' := by
  have HC := Lib.hid (show clampF n 0 1099511627776 = tickF n by unfold clampF tickF; omega)
  go_enter Try.func57, Try.ntmps57
  go_wp2_with (go_at_call 52; (with_reducible refine (clamp_as n 0 1099511627776 (tickF n) HC _).mono ?_); rintro e w' ⟨rfl, rfl⟩)
  go_ret
  exact ⟨rfl, rfl⟩
theorem astick_as (n m : Int) (h : Hid (tickF n = m)) (w : World) : Calls Try.prog 57 #[.int .i64 n] w fun e w' => e = .returned (.int .i64 m) ∧ w = w' := by
  rw [← h.out]; exact astick_any n w
theorem later_any (t m : Int) (w : World) : Calls Try.prog 38 #[.int .i64 t, .int .i64 m] w fun e w' => e = .returned (.int .i64 (laterF t m)) ∧ w = w' := by
  have ht := tick_bd t
  have hm := tick_bd m
  unfold laterF
  obtain ⟨a, ha⟩ : ∃ a, tickF t = a := ⟨_, rfl⟩
  obtain ⟨b, hb⟩ : ∃ b, tickF m = b := ⟨_, rfl⟩
  rw [ha] at ht ⊢
  rw [hb] at hm ⊢
  have HA := Lib.hid ha
  have HB := Lib.hid hb
  obtain ⟨a0, a1⟩ := ht
  obtain ⟨b0, b1⟩ := hm
  clear ha hb
  by_cases hs : a + b < 1099511627776
  all_goals
    go_enter Try.func38, Try.ntmps38
    go_wp2_with (first
      | (go_at_call 57; (with_reducible refine (astick_as t a HA _).mono ?_); rintro e w' ⟨rfl, rfl⟩)
      | (go_at_call 57; (with_reducible refine (astick_as m b HB _).mono ?_); rintro e w' ⟨rfl, rfl⟩))
    all_goals
      go_ret
      exact ⟨ret_int (by unfold tickF; omega), rfl⟩
theorem sclone13_any (s : ByteArray) (hs : s.size ≤ 1000000000) (w0 w : World) (hr : Rel w0 w) : Calls Try.prog 31 #[.string s] w fun e w' => e = .returned (.string s) ∧ Rel w0 w' := by
  have hc := fun w => Try.stringslite_Clone s w (by omega)
  go_enter Try.func31, Try.ntmps31
  go_wp2_with (go_at_call 53; refine (hc _).mono ?_; rintro e w' ⟨rfl, hw⟩)
  go_ret
  exact ⟨rfl, hr.step hw⟩
theorem seller_of (X : ByteArray) (p t : Int) (w0 w : World) (hr : Rel w0 w) : Calls Try.prog 33 #[.agg #[.string X, .int .i64 p, .int .i64 t]] w fun e w' => e = .returned (.string X) ∧ Rel w0 w' := by
  go_enter Try.func33, Try.ntmps33
  go_wp2_with (fail)
  go_ret
  exact ⟨rfl, hr.alloc _⟩
theorem source_of (X : ByteArray) (p : Int) (w0 w : World) (hr : Rel w0 w) : Calls Try.prog 46 #[.agg #[.string X, .int .i64 p]] w fun e w' => e = .returned (.string X) ∧ Rel w0 w' := by
  go_enter Try.func46, Try.ntmps46
  go_wp2_with (fail)
  go_ret
  exact ⟨rfl, hr.alloc _⟩
theorem enter_seller : ∀ (args : Array Value) (w : World), (callFunc 33 args).run Try.prog w = .ok (.enter 33 args) w := enters_of Try.func33 (by kernel_rfl) rfl
theorem enter_source : ∀ (args : Array Value) (w : World), (callFunc 46 args).run Try.prog w = .ok (.enter 46 args) w := enters_of Try.func46 (by kernel_rfl) rfl
end Go.Proofs.Ytfplhpkolcgpiaa
