/- Plain mathematics of layer 15: asked twice, bands as wide as all prices, the ring. No program in this text; Plain mathematics of layer 15: prices that swing to and fro. No program in this text; Plain mathematics of layer 15: the law's awake. No program in this text; Paces in memory; DERIVED: THE SHELF's CONTRACTS AT THIS DUMP, IN PLAIN WORDS (tools/lay-plain.mjs out of 'TrydShelf.lean', which tools/lay-shelf.mjs wrote): THE SAME DECLARATIONS UNDER THE SAME NAMES: 'import', 'namespace', 'open', 'def', 'theorem' AND NOTHING ELSE: no command of the shelf's: FOR A HAND-IN. Each laying: the table of numbers ('.._ren') and one theorem, a field a fact of the dump's own or the kernel's comparison; each contract: ONE APPLICATION; The document's own Right of layer 15; The landed parser: its state; a token taken, a fault, an amount, a name, a sign, the end; The landed parser: a fault made; a sign, the end, a number, a name; what begins; What is scanned: the document's own Lex; Plain mathematics of layer 6, third part: what is told one token behind the other, up to an error. No program in this text. -/
import Derived.Test.YtjhjdiaomnpkmaaDoorZL
import Derived.Test.YtjhjdiaomnpkmaaDoorZ00
import Derived.Test.YtjhjdiaomnpkmaaDoorZ01
import Derived.Test.YtjhjdiaomnpkmaaDoorZ02
import Derived.Test.YtjhjdiaomnpkmaaDoorZ03
namespace Go.Proofs.YtjhjdiaomnpkmaaDoor
open Go.Lib
set_option linter.unusedVariables false
set_option linter.unusedSimpArgs false
theorem later_up {a b : Int} (ha : 0 ≤ a) (hb : 0 ≤ b) : laterF a b ≤ a + b := by
  unfold laterF tickF
  split <;> split <;> (try split) <;> (try split) <;> omega
theorem later_sum {a b : Int} (ha : 0 ≤ a) (hb : 0 ≤ b) (h : a + b ≤ 1099511627776) : laterF a b = a + b := by
  unfold laterF tickF
  split <;> split <;> (try split) <;> (try split) <;> omega
theorem swK_le (s : Int) : swK s ≤ 6 := by unfold swK; omega
theorem zero_not {c : Cf} : withinC c 0 = false := by
  cases h : withinC c 0 with
  | false => rfl
  | true => have := (within_bd h).1; omega
/-- Whether a target is decided hangs, from Ready on, on nearness alone. -/
theorem go_near {c : Cf} {p : Pa15} {t k : Int} (ht : withinC c t = true) (hr : rightP p = true) (hl : laP p ≠ 0 → withinC c (laP p) = true) (hk0 : 0 ≤ k) (hk : k ≤ 1099511627776) (hkr : readyP c p ≤ k) : goP c p t k = !decide (laP p ≠ 0 ∧ max (t - laP p) (laP p - t) ≤ bdC c) := by
  have hb := within_bd ht
  have hn := nums_iff.1 (check_zero.1 hb.2.2.1).1
  unfold goP
  rw [ht, hr, decide_eq_true (show 0 ≤ k ∧ k ≤ 1099511627776 ∧ readyP c p ≤ k from ⟨hk0, hk, hkr⟩)]
  simp only [Bool.true_and]
  by_cases h0 : laP p = 0
  · rw [h0, zero_not, decide_eq_false (show ¬ ((0 : Int) ≠ 0 ∧ max (t - 0) (0 - t) ≤ bdC c) from fun e => e.1 rfl), decide_eq_true (show t ≠ 0 by omega)]
    rfl
  · rw [hl h0]
    unfold nearP
    by_cases hnr : t - laP p ≤ bdC c ∧ laP p - t ≤ bdC c
    · rw [decide_eq_true hnr, decide_eq_true (show laP p ≠ 0 ∧ max (t - laP p) (laP p - t) ≤ bdC c from ⟨h0, by omega⟩)]
      rfl
    · rw [decide_eq_false hnr, decide_eq_false (show ¬ (laP p ≠ 0 ∧ max (t - laP p) (laP p - t) ≤ bdC c) from fun e => hnr (by omega)), decide_eq_true (show t ≠ laP p from fun e => hnr (by omega))]
      rfl
theorem go_early {c : Cf} {p : Pa15} {t k : Int} (h : k < readyP c p) : goP c p t k = false := by
  unfold goP
  rw [decide_eq_false (show ¬ (0 ≤ k ∧ k ≤ 1099511627776 ∧ readyP c p ≤ k) from fun e => by omega), Bool.and_false, Bool.false_and, Bool.false_and]
end Go.Proofs.YtjhjdiaomnpkmaaDoor

namespace Go.Proofs.YtjhjdiaomnpkmaaDoor
open Go.Lib
set_option linter.unusedVariables false
set_option linter.unusedSimpArgs false
/-- The config of the law on swings. -/
def cfS (cl : Int) : Cf := (100, 900, 0, cl, 0, tA14)
def tarS (s : Int) (i : Nat) : Int := 200 + ((i % 2 : Nat) : Int) * s
def swS (i : Nat) : Nat := min (i - 2) 6
theorem cfS_ok {cl : Int} (h0 : 0 ≤ cl) (h1 : cl ≤ 1048576) : checkC (cfS cl) = 0 := by
  refine check_zero.2 ⟨nums_iff.2 ?_, ?_⟩
  · show 1 ≤ (100 : Int) ∧ (100 : Int) ≤ 900 ∧ (900 : Int) ≤ 1000000000000 ∧ (0 : Int) ≤ 0 ∧ (0 : Int) ≤ 900 ∧ 0 ≤ cl ∧ cl ≤ 1048576 ∧ (0 : Int) ≤ 0 ∧ (0 : Int) ≤ 1000000000000
    omega
  · show textE tA14 = 0
    rw [← xA_text]; exact text_right xA_right
theorem cfS_within {cl t : Int} (h0 : 0 ≤ cl) (h1 : cl ≤ 1048576) (ht : 100 ≤ t) (ht' : t ≤ 900) : withinC (cfS cl) t = true := by
  unfold withinC
  refine decide_eq_true ⟨cfS_ok h0 h1, ?_, ht'⟩
  show max (100 : Int) 0 ≤ t
  omega
theorem tarS_bd {s : Int} (h0 : 1 ≤ s) (h1 : s ≤ 600) (i : Nat) : 200 ≤ tarS s i ∧ tarS s i ≤ 800 := by
  unfold tarS
  have : i % 2 = 0 ∨ i % 2 = 1 := by omega
  rcases this with e | e <;> rw [e] <;> omega
theorem tarS_two (s : Int) (i : Nat) : tarS s (i + 2) = tarS s i := by
  unfold tarS
  rw [Nat.add_mod_right]
theorem tarS_ne {s : Int} (h0 : 1 ≤ s) (i : Nat) : tarS s (i + 1) ≠ tarS s i := by
  unfold tarS
  have : i % 2 = 0 ∨ i % 2 = 1 := by omega
  rcases this with e | e
  · rw [e, show (i + 1) % 2 = 1 by omega]; omega
  · rw [e, show (i + 1) % 2 = 0 by omega]; omega
/-- The pace behind i prices. -/
def rinS (s : Int) : Nat → List Int
  | 0 => []
  | 1 => [tarS s 0]
  | 2 => [tarS s 0, tarS s 1]
  | i + 3 => [tarS s i, tarS s (i + 1), tarS s (i + 2)]
structure SwI (cl s : Int) (i : Nat) (p : Pa15) (now : Int) : Prop where
  right : rightP p = true
  ring : riP p = rinS s i
  last0 : i = 0 → p = noP ∧ now = 0
  last : ∀ j, i = j + 1 → laP p = tarS s j ∧ swP p = (swS j : Nat) ∧ now = readyP (cfS cl) p
  now0 : 0 ≤ now
  now1 : now ≤ 6400 * i
theorem by_is {cl : Int} (h0 : 0 ≤ cl) (h1 : cl ≤ 2000) : ∀ k, k ≤ 6 → byP cl k = cl * 2 ^ k := by
  intro k
  induction k with
  | zero => intro _; show laterF cl 0 = cl * 2 ^ 0; rw [later_sum h0 (Int.le_refl _) (by omega)]; omega
  | succ k ih =>
    intro hk
    have e := ih (by omega)
    have hb := (by_bd cl k).1
    have hu : cl * 2 ^ k ≤ 128000 := by
      have : k = 0 ∨ k = 1 ∨ k = 2 ∨ k = 3 ∨ k = 4 ∨ k = 5 := by omega
      rcases this with e | e | e | e | e | e <;> rw [e] <;> omega
    show laterF (byP cl k) (byP cl k) = _
    rw [later_sum hb hb (by omega), e, Int.pow_succ, ← Int.mul_assoc]
    omega
theorem rin_next (s : Int) (i : Nat) : lastR (rinS s i ++ [tarS s i]) = rinS s (i + 1) := by
  match i with
  | 0 => rfl
  | 1 => rfl
  | 2 => rfl
  | i + 3 => rfl
theorem rin_swings {s : Int} (h0 : 1 ≤ s) (i : Nat) : swingsP (rinS s i) (tarS s i) = decide (3 ≤ i) := by
  match i with
  | 0 => rfl
  | 1 => rfl
  | 2 => rfl
  | i + 3 =>
    show decide (tarS s (i + 1) = tarS s (i + 3) ∧ tarS s (i + 2) = tarS s i) = decide (3 ≤ i + 3)
    rw [decide_eq_true (show 3 ≤ i + 3 by omega)]
    exact decide_eq_true ⟨(tarS_two s (i + 1)).symm, tarS_two s i⟩
theorem sw_go {cl s : Int} {i : Nat} {p : Pa15} {now : Int} (hc0 : 1 ≤ cl) (hc1 : cl ≤ 50) (hs0 : 1 ≤ s) (hs1 : s ≤ 600) (hi : i ≤ 20) (h : SwI cl s i p now) (t : Int) (ht : 100 ≤ t) (ht' : t ≤ 900) (hne : ∀ j, i = j + 1 → t ≠ tarS s j) : goP (cfS cl) p t now = true := by
  have hw := cfS_within (cl := cl) (by omega) (by omega) ht ht'
  have n0 := h.now0
  have n1 := h.now1
  match i, h, hi, hne with
  | 0, h, _, _ =>
    obtain ⟨rfl, rfl⟩ := h.last0 rfl
    exact go_first hw (Int.le_refl _) (by omega)
  | j + 1, h, hi, hne =>
    obtain ⟨e1, e2, e3⟩ := h.last j rfl
    have hb := tarS_bd hs0 hs1 j
    have hl : withinC (cfS cl) (laP p) = true := cfS_within (by omega) (by omega) (by omega) (by omega)
    rw [go_near hw h.right (fun _ => hl) n0 (by omega) (by omega)]
    have hx := hne j rfl
    rw [decide_eq_false]
    · rfl
    · rintro ⟨_, e⟩
      have e : max (t - laP p) (laP p - t) ≤ 0 := e
      omega
theorem sw_next {cl s : Int} {i : Nat} {p : Pa15} {now : Int} (hc0 : 1 ≤ cl) (hc1 : cl ≤ 50) (hs0 : 1 ≤ s) (hs1 : s ≤ 600) (hi : i ≤ 20) (h : SwI cl s i p now) :
    goP (cfS cl) p (tarS s i) now = true ∧ swP (nextP p (tarS s i) now) = ((swS i : Nat) : Int) ∧ readyP (cfS cl) (nextP p (tarS s i) now) = now + cl * 2 ^ swS i ∧ SwI cl s (i + 1) (nextP p (tarS s i) now) (now + cl * 2 ^ swS i) := by
  have hb := tarS_bd hs0 hs1 i
  have hg := sw_go hc0 hc1 hs0 hs1 hi h (tarS s i) (by omega) (by omega) (fun j e => by subst e; exact tarS_ne hs0 j)
  have n0 := h.now0
  have n1 := h.now1
  have hsw : swP (nextP p (tarS s i) now) = ((swS i : Nat) : Int) := by
    show (if swingsP (riP p) (tarS s i) then min (swP p + 1) 6 else 0) = ((swS i : Nat) : Int)
    rw [h.ring, rin_swings hs0]
    by_cases h3 : 3 ≤ i
    · rw [decide_eq_true h3, if_pos rfl]
      obtain ⟨j, rfl⟩ : ∃ j, i = j + 1 := ⟨i - 1, by omega⟩
      have := (h.last j rfl).2.1
      rw [this]
      unfold swS
      omega
    · rw [decide_eq_false h3, if_neg (by decide)]
      unfold swS
      omega
  have h6 : swS i ≤ 6 := by unfold swS; omega
  have hp : 0 ≤ cl * 2 ^ swS i ∧ cl * 2 ^ swS i ≤ 3200 := by
    have : swS i = 0 ∨ swS i = 1 ∨ swS i = 2 ∨ swS i = 3 ∨ swS i = 4 ∨ swS i = 5 ∨ swS i = 6 := by omega
    rcases this with e | e | e | e | e | e | e <;> rw [e] <;> omega
  have hrd : readyP (cfS cl) (nextP p (tarS s i) now) = now + cl * 2 ^ swS i := by
    unfold readyP
    rw [if_neg (show ¬ laP (nextP p (tarS s i) now) = 0 by show ¬ tarS s i = 0; omega), hsw]
    have hk : swK ((swS i : Nat) : Int) = swS i := by unfold swK; omega
    rw [hk]
    show laterF now (byP cl (swS i)) = _
    rw [by_is (by omega) (by omega) _ h6, later_sum n0 hp.1 (by omega)]
  refine ⟨hg, hsw, hrd, ⟨next_right hg, ?_, fun e => by omega, fun j e => ?_, by omega, by omega⟩⟩
  · show lastR (riP p ++ [tarS s i]) = rinS s (i + 1)
    rw [h.ring, rin_next]
  · obtain rfl : i = j := by omega
    exact ⟨rfl, hsw, hrd.symm⟩
theorem sw_zero (cl s : Int) : SwI cl s 0 noP 0 := ⟨no_right, rfl, fun _ => ⟨rfl, rfl⟩, fun j e => by omega, Int.le_refl _, by decide⟩
/-- A price that is another one ends it. -/
theorem sw_end {cl s : Int} {i : Nat} {p : Pa15} {now : Int} (hc0 : 1 ≤ cl) (hc1 : cl ≤ 50) (hs0 : 1 ≤ s) (hs1 : s ≤ 600) (hi : i ≤ 20) (h : SwI cl s i p now) :
    goP (cfS cl) p 199 now = true ∧ swP (nextP p 199 now) = 0 ∧ readyP (cfS cl) (nextP p 199 now) = now + cl := by
  have n0 := h.now0
  have n1 := h.now1
  have hg := sw_go hc0 hc1 hs0 hs1 hi h 199 (by omega) (by omega) (fun j _ => by have := (tarS_bd hs0 hs1 j).1; omega)
  have hsw : swP (nextP p 199 now) = 0 := by
    show (if swingsP (riP p) 199 then min (swP p + 1) 6 else 0) = 0
    rw [h.ring]
    have : swingsP (rinS s i) 199 = false := by
      match i with
      | 0 => rfl
      | 1 => rfl
      | 2 => rfl
      | i + 3 =>
        have := (tarS_bd hs0 hs1 (i + 1)).1
        exact decide_eq_false fun e => by have := e.1; omega
    rw [this, if_neg (by decide)]
  refine ⟨hg, hsw, ?_⟩
  unfold readyP
  rw [if_neg (show ¬ laP (nextP p 199 now) = 0 by show ¬ (199 : Int) = 0; omega), hsw]
  show laterF now (byP cl 0) = now + cl
  rw [by_is (by omega) (by omega) 0 (by omega), later_sum n0 (by omega) (by omega)]
  omega
end Go.Proofs.YtjhjdiaomnpkmaaDoor

namespace Go.Proofs.YtjhjdiaomnpkmaaDoor
open Go.Lib
set_option linter.unusedVariables false
set_option linter.unusedSimpArgs false
def cA15 : Cf := (1, 900, 0, 4, 5, tA14)
def pA15 : Pa15 := (500, 10, [500], 0)
def pD15 : Pa15 := (600, 14, [500, 600], 0)
def pS15 : Pa15 := (500, 10, [500, 600, 500], 0)
def pF15 : Pa15 := (600, 14, [600, 500, 600], 1)
theorem cA_ok : checkC cA15 = 0 := check_zero.2 ⟨by decide, (check_zero.1 (cfS_ok (cl := 4) (by decide) (by decide))).2⟩
theorem cA_within {t : Int} (h : 1 ≤ t) (h' : t ≤ 900) : withinC cA15 t = true := by
  unfold withinC
  exact decide_eq_true ⟨cA_ok, by unfold lowC; show max (1 : Int) 0 ≤ t; omega, h'⟩
theorem rd_A : readyP cA15 pA15 = 14 := by decide
theorem rd_F : readyP cA15 pF15 = 22 := by decide
theorem ri_A : rightP pA15 = true := by decide
theorem ri_S : rightP pS15 = true := by decide
theorem ri_L : rightP (1, 0, [], 0) = false := by decide
theorem go_A0 : goP cA15 noP 500 10 = true := go_first (cA_within (by decide) (by decide)) (by decide) (by decide)
theorem de_A0 : decP cA15 noP 500 10 = pA15 := by unfold decP; rw [if_pos go_A0]; rfl
theorem go_A1 : goP cA15 pA15 505 20 = false := by
  unfold goP
  rw [show withinC cA15 (laP pA15) = true from cA_within (by decide) (by decide), show nearP cA15 pA15 505 = true from by decide]
  simp
theorem go_A2 : goP cA15 pA15 600 13 = false := go_early (by rw [rd_A]; decide)
theorem go_A3 : goP cA15 pA15 600 14 = true := by
  unfold goP
  rw [cA_within (t := 600) (by decide) (by decide), ri_A, rd_A, show nearP cA15 pA15 600 = false from by decide, Bool.and_false]
  decide
theorem de_A3 : decP cA15 pA15 600 14 = pD15 := by unfold decP; rw [if_pos go_A3]; rfl
theorem go_A4 : goP cA15 pS15 600 14 = true := by
  unfold goP
  rw [cA_within (t := 600) (by decide) (by decide), ri_S, show readyP cA15 pS15 = 14 from by decide, show nearP cA15 pS15 600 = false from by decide, Bool.and_false]
  decide
theorem de_A4 : decP cA15 pS15 600 14 = pF15 := by unfold decP; rw [if_pos go_A4]; decide
end Go.Proofs.YtjhjdiaomnpkmaaDoor

namespace Go.Proofs.YtjhjdiaomnpkmaaDoor
open Go.RowKit Go.Lib
set_option linter.unusedVariables false
set_option linter.unusedSimpArgs false
def PaFit (p : Pa15) : Prop := i64 (laP p) ∧ i64 (atP p) ∧ i64 (swP p)
theorem four_of {w : World} {g : Nat} {t : TypeId} {a b c d : Value} (h : Bk w g t #[a, b, c, d]) :
    (w.cell? ⟨g, 0, none⟩ = some a ∧ w.cell? ⟨g, 1, none⟩ = some b ∧ w.cell? ⟨g, 2, none⟩ = some c ∧ w.cell? ⟨g, 3, none⟩ = some d) ∧
      (w.frozen? ⟨g, 0, none⟩ = false ∧ w.frozen? ⟨g, 1, none⟩ = false ∧ w.frozen? ⟨g, 2, none⟩ = false ∧ w.frozen? ⟨g, 3, none⟩ = false) :=
  ⟨⟨h.cell 0, h.cell 1, h.cell 2, h.cell 3⟩, ⟨h.frozen 0, h.frozen 1, h.frozen 2, h.frozen 3⟩⟩
theorem IntsIn.at15 {w : World} {A : Option Addr} {k : Nat} {L : List Int} (h : IntsIn w A k L) (i : Nat) (hi : i < L.length) : ∃ a : Addr, A = some a ∧ w.cell? (a.add i) = some (.int .i64 L[i]) := by
  obtain ⟨a, h1, _, h3⟩ := h.2.2.2 i hi
  exact ⟨a, h1, h3⟩
theorem addr_spot15 {w : World} {a : Addr} {v : Value} (h : w.cell? (a.add 0) = some v) : ∃ g off, a = ⟨g, off, none⟩ := by
  obtain ⟨g, off, cur⟩ := a
  cases cur with
  | none => exact ⟨g, off, rfl⟩
  | some k =>
    exfalso
    simp only [Addr.add, World.cell?, if_true] at h
    split at h <;> simp at h
end Go.Proofs.YtjhjdiaomnpkmaaDoor

namespace Go.Proofs
open Go.Shelf
def Tryd.lays103_ren : Go.Shelf.Ren := ⟨fun | 103 => 71 | 210 => 79 | 206 => 83 | n => n, fun | 9 => 9 | 4 => 4 | 24 => 109 | 3 => 3 | n => n, fun | n => n⟩
theorem Tryd.lays103 : Go.Proofs.Lays.n103 Tryd.prog Tryd.lays103_ren := {
  mixed := by kernel_rfl
  f103 := Tryd.func71.trans (congrArg some (by kernel_rfl))
  f206 := Tryd.func83.trans (congrArg some (by kernel_rfl))
  f210 := Tryd.func79.trans (congrArg some (by kernel_rfl))
  t3 := Tryd.underlying3
  a3 := Tryd.isAgg3
  z3 := Tryd.sizeOf3
  v3 := Tryd.zeroValue3
  t4 := Tryd.underlying4
  a4 := Tryd.isAgg4
  z4 := Tryd.sizeOf4
  v4 := Tryd.zeroValue4
  t9 := Tryd.underlying9
  a9 := Tryd.isAgg9
  z9 := Tryd.sizeOf9
  v9 := Tryd.zeroValue9
  t24 := Tryd.underlying109
  a24 := Tryd.isAgg109
  z24 := Tryd.sizeOf109
  v24 := Tryd.zeroValue109 }
open Go.RowKit in
/-- strings.CutPrefix: "CutPrefix returns s without the provided leading prefix string and reports whether it found the prefix. If s doesn't start with prefix, CutPrefix returns s, false. If prefix is the empty string, CutPrefix returns s, true.": IT RETURNS '(Lib.trimPrefix s p, Lib.hasPrefix s p)'; the world is as it was. (LAID: no walk: one application.) -/
theorem Tryd.strings_CutPrefix (s p : ByteArray) (w : World) :
    Calls Tryd.prog 71 #[.string s, .string p] w fun e w' => e = .returned (.tuple #[.string ⟨(Lib.trimPrefix s.data.toList p.data.toList).toArray⟩, .bool (Lib.hasPrefix s.data.toList p.data.toList)]) ∧ w' = w := Any.strings_CutPrefix Tryd.lays103 s p w
def Tryd.laysM171_ren : Go.Shelf.Ren := ⟨fun | 171 => 67 | 243 => 78 | 246 => 82 | 283 => 85 | 284 => 86 | 285 => 87 | 286 => 88 | 129 => 94 | 317 => 93 | 318 => 95 | 319 => 96 | 320 => 97 | 337 => 100 | 338 => 101 | n => n, fun | 3 => 3 | 9 => 9 | 2 => 2 | 4 => 4 | 171 => 119 | 0 => 0 | 53 => 120 | 37 => 73 | 5 => 5 | 173 => 123 | 212 => 128 | 51 => 129 | 20 => 20 | 213 => 130 | 46 => 126 | 232 => 135 | 233 => 136 | n => n, fun | 17 => 1 | 18 => 2 | 19 => 3 | n => n⟩
theorem Tryd.laysM171 : Go.Proofs.LaysM.n171 Tryd.prog Tryd.laysM171_ren := {
  mixed := by kernel_rfl
  f129 := Tryd.func94.trans (congrArg some (by kernel_rfl))
  f171 := Tryd.func67.trans (congrArg some (by kernel_rfl))
  f243 := Tryd.func78.trans (congrArg some (by kernel_rfl))
  f246 := Tryd.func82.trans (congrArg some (by kernel_rfl))
  f283 := Tryd.func85.trans (congrArg some (by kernel_rfl))
  f284 := Tryd.func86.trans (congrArg some (by kernel_rfl))
  f285 := Tryd.func87.trans (congrArg some (by kernel_rfl))
  f286 := Tryd.func88.trans (congrArg some (by kernel_rfl))
  f317 := Tryd.func93.trans (congrArg some (by kernel_rfl))
  f318 := Tryd.func95.trans (congrArg some (by kernel_rfl))
  f319 := Tryd.func96.trans (congrArg some (by kernel_rfl))
  f320 := Tryd.func97.trans (congrArg some (by kernel_rfl))
  f337 := Tryd.func100.trans (congrArg some (by kernel_rfl))
  f338 := Tryd.func101.trans (congrArg some (by kernel_rfl))
  t0 := Tryd.underlying0
  a0 := Tryd.isAgg0
  z0 := Tryd.sizeOf0
  v0 := Tryd.zeroValue0
  t2 := Tryd.underlying2
  a2 := Tryd.isAgg2
  z2 := Tryd.sizeOf2
  v2 := Tryd.zeroValue2
  t3 := Tryd.underlying3
  a3 := Tryd.isAgg3
  z3 := Tryd.sizeOf3
  v3 := Tryd.zeroValue3
  t4 := Tryd.underlying4
  a4 := Tryd.isAgg4
  z4 := Tryd.sizeOf4
  v4 := Tryd.zeroValue4
  t5 := Tryd.underlying5
  a5 := Tryd.isAgg5
  z5 := Tryd.sizeOf5
  v5 := Tryd.zeroValue5
  t9 := Tryd.underlying9
  a9 := Tryd.isAgg9
  z9 := Tryd.sizeOf9
  v9 := Tryd.zeroValue9
  t20 := Tryd.underlying20
  a20 := Tryd.isAgg20
  z20 := Tryd.sizeOf20
  v20 := Tryd.zeroValue20
  t37 := Tryd.underlying73
  a37 := Tryd.isAgg73
  z37 := Tryd.sizeOf73
  v37 := Tryd.zeroValue73
  t46 := Tryd.underlying126
  a46 := Tryd.isAgg126
  z46 := Tryd.sizeOf126
  v46 := Tryd.zeroValue126
  t51 := Tryd.underlying129
  a51 := Tryd.isAgg129
  z51 := Tryd.sizeOf129
  v51 := Tryd.zeroValue129
  t53 := Tryd.underlying120
  a53 := Tryd.isAgg120
  z53 := Tryd.sizeOf120
  v53 := Tryd.zeroValue120
  t171 := Tryd.underlying119
  a171 := Tryd.isAgg119
  z171 := Tryd.sizeOf119
  v171 := Tryd.zeroValue119
  t173 := Tryd.underlying123
  a173 := Tryd.isAgg123
  z173 := Tryd.sizeOf123
  v173 := Tryd.zeroValue123
  t212 := Tryd.underlying128
  a212 := Tryd.isAgg128
  z212 := Tryd.sizeOf128
  v212 := Tryd.zeroValue128
  t213 := Tryd.underlying130
  a213 := Tryd.isAgg130
  z213 := Tryd.sizeOf130
  t232 := Tryd.underlying135
  a232 := Tryd.isAgg135
  z232 := Tryd.sizeOf135
  v232 := Tryd.zeroValue135
  t233 := Tryd.underlying136
  a233 := Tryd.isAgg136
  z233 := Tryd.sizeOf136
  v233 := Tryd.zeroValue136
  g17 := by kernel_rfl
  g18 := by kernel_rfl
  g19 := by kernel_rfl
  i0 := by kernel_rfl
  i2 := by kernel_rfl
  i3 := by kernel_rfl
  i4 := by kernel_rfl
  i5 := by kernel_rfl
  i9 := by kernel_rfl
  i20 := by kernel_rfl
  i37 := by kernel_rfl
  i46 := by kernel_rfl
  i51 := by kernel_rfl
  i53 := by kernel_rfl
  i171 := by kernel_rfl
  i173 := by kernel_rfl
  i212 := by kernel_rfl
  i232 := by kernel_rfl
  i233 := by kernel_rfl
  m17 := by kernel_rfl
  m18 := by kernel_rfl
  m19 := by kernel_rfl }
open Go.RowKit Go.Sort Go.Lib in
/-- strconv.Itoa: "Itoa is equivalent to FormatInt(int64(i), 10).": i's DECIMAL NUMERAL ('Lib.itoa': a '-' where i is negative, then the digits), FOR EVERY int. The world behind the call: the world before it, new blocks behind the heap (the library's 'var a [24]byte'), draws. (LAID: no walk: one application.) -/
theorem Tryd.strconv_Itoa (n : Int) (h0 : -9223372036854775808 ≤ n) (h1 : n ≤ 9223372036854775807) (w : World) (htab : Lib.TabIs Tryd.prog w "internal/strconv.uint64pow10" .u64 Lib.pow10Tab) :
    Calls Tryd.prog 67 #[.int .i64 n] w fun e w' => e = .returned (.string ⟨(Lib.itoa n).toArray⟩) ∧ ∃ k os, w' = grow (w.drewN k) os := Any.strconv_Itoa Tryd.laysM171 n h0 h1 w htab
def Tryd.laysM316_ren : Go.Shelf.Ren := ⟨fun | 316 => 74 | n => n, fun | 9 => 9 | 3 => 3 | 4 => 4 | 37 => 73 | 0 => 0 | 127 => 95 | 5 => 5 | n => n, fun | n => n⟩
theorem Tryd.laysM316 : Go.Proofs.LaysM.n316 Tryd.prog Tryd.laysM316_ren := {
  mixed := by kernel_rfl
  f316 := Tryd.func74.trans (congrArg some (by kernel_rfl))
  t0 := Tryd.underlying0
  a0 := Tryd.isAgg0
  z0 := Tryd.sizeOf0
  v0 := Tryd.zeroValue0
  t3 := Tryd.underlying3
  a3 := Tryd.isAgg3
  z3 := Tryd.sizeOf3
  v3 := Tryd.zeroValue3
  t4 := Tryd.underlying4
  a4 := Tryd.isAgg4
  z4 := Tryd.sizeOf4
  v4 := Tryd.zeroValue4
  t9 := Tryd.underlying9
  a9 := Tryd.isAgg9
  z9 := Tryd.sizeOf9
  v9 := Tryd.zeroValue9
  t37 := Tryd.underlying73
  a37 := Tryd.isAgg73
  z37 := Tryd.sizeOf73
  v37 := Tryd.zeroValue73
  t127 := Tryd.underlying95
  a127 := Tryd.isAgg95
  z127 := Tryd.sizeOf95
  v127 := Tryd.zeroValue95
  t5 := Tryd.underlying5
  a5 := Tryd.isAgg5
  z5 := Tryd.sizeOf5
  v5 := Tryd.zeroValue5
  i0 := by kernel_rfl
  i3 := by kernel_rfl
  i4 := by kernel_rfl
  i5 := by kernel_rfl
  i9 := by kernel_rfl
  i37 := by kernel_rfl
  i127 := by kernel_rfl }
open Go.RowKit in
/-- internal/stringslite.Clone (what strings.Clone calls): "Clone returns a fresh copy of s.": THE SAME BYTES. Of what was there nothing has turned (a new row is laid, and frozen, where s is not empty). (LAID: no walk: one application.) -/
theorem Tryd.stringslite_Clone (s : ByteArray) (w : World) (hlim : s.size ≤ 281474976710656) :
    Calls Tryd.prog 74 #[.string s] w fun e w' => e = .returned (.string s) ∧ Below w.heap.size w w' := Any.stringslite_Clone Tryd.laysM316 s w hlim
def Tryd.lays219_ren : Go.Shelf.Ren := ⟨fun | 219 => 84 | 217 => 89 | 225 => 90 | 224 => 91 | 267 => 92 | 266 => 98 | 314 => 99 | n => n, fun | 9 => 9 | 3 => 3 | 4 => 4 | 5 => 5 | 46 => 126 | 146 => 132 | 51 => 129 | n => n, fun | 1 => 0 | n => n⟩
theorem Tryd.lays219 : Go.Proofs.Lays.n219 Tryd.prog Tryd.lays219_ren := {
  mixed := by kernel_rfl
  f217 := Tryd.func89.trans (congrArg some (by kernel_rfl))
  f219 := Tryd.func84.trans (congrArg some (by kernel_rfl))
  f224 := Tryd.func91.trans (congrArg some (by kernel_rfl))
  f225 := Tryd.func90.trans (congrArg some (by kernel_rfl))
  f266 := Tryd.func98.trans (congrArg some (by kernel_rfl))
  f267 := Tryd.func92.trans (congrArg some (by kernel_rfl))
  f314 := Tryd.func99.trans (congrArg some (by kernel_rfl))
  t3 := Tryd.underlying3
  a3 := Tryd.isAgg3
  z3 := Tryd.sizeOf3
  v3 := Tryd.zeroValue3
  t4 := Tryd.underlying4
  a4 := Tryd.isAgg4
  z4 := Tryd.sizeOf4
  v4 := Tryd.zeroValue4
  t5 := Tryd.underlying5
  a5 := Tryd.isAgg5
  z5 := Tryd.sizeOf5
  v5 := Tryd.zeroValue5
  t9 := Tryd.underlying9
  a9 := Tryd.isAgg9
  z9 := Tryd.sizeOf9
  v9 := Tryd.zeroValue9
  t46 := Tryd.underlying126
  a46 := Tryd.isAgg126
  z46 := Tryd.sizeOf126
  v46 := Tryd.zeroValue126
  t51 := Tryd.underlying129
  a51 := Tryd.isAgg129
  z51 := Tryd.sizeOf129
  v51 := Tryd.zeroValue129
  t146 := Tryd.underlying132
  a146 := Tryd.isAgg132
  z146 := Tryd.sizeOf132
  v146 := Tryd.zeroValue132
  g1 := by kernel_rfl }
open Go.RowKit Go.Lib in
/-- internal/stringslite.Index (what strings.Index calls) AT A substr OF ONE BYTE c: IT RETURNS 'Lib.indexByte s c'; the world is as it was. (LAID: no walk: one application.) -/
theorem Tryd.stringslite_Index_one (s : ByteArray) (c : UInt8) (w : World) :
    Calls Tryd.prog 84 #[.string s, .string ⟨#[c]⟩] w fun e w' => e = .returned (.int .i64 (Lib.indexByte s.data.toList c)) ∧ w' = w := Any.stringslite_Index_one Tryd.lays219 s c w
end Go.Proofs

namespace Go.Proofs.YtjhjdiaomnpkmaaDoor
open Go.RowKit Go.Lib
set_option linter.unusedVariables false
set_option linter.unusedSimpArgs false
theorem ints_row {w : World} {A : Option Addr} {k : Nat} {L : List Int} (h : IntsIn w A k L) (h0 : 0 < L.length) : ∃ g off : Nat, A = some ⟨g, off, none⟩ ∧ ∀ i (hi : i < L.length), w.cell? ⟨g, off + i, none⟩ = some (.int .i64 L[i]) := by
  obtain ⟨a, h1, h2⟩ := h.at15 0 h0
  obtain ⟨g, off, rfl⟩ := addr_spot15 h2
  refine ⟨g, off, h1, fun i hi => ?_⟩
  obtain ⟨b, h3, h4⟩ := h.at15 i hi
  rw [h1] at h3
  cases h3
  by_cases e : i = 0
  · subst e; exact h4
  · have : (⟨g, off, none⟩ : Addr).add i = ⟨g, off + i, none⟩ := by simp [Addr.add, e]
    rw [this] at h4
    exact h4
end Go.Proofs.YtjhjdiaomnpkmaaDoor

namespace Go.Proofs.YtjhjdiaomnpkmaaDoor
open Go.RowKit Go.Lib
set_option linter.unusedVariables false
set_option linter.unusedSimpArgs false
/-- A parse ended by a fault. -/
abbrev FLT (c p : Int) : Ending := .panicked [{ v := .iface 67 (.agg #[.int .i64 c, .int .i64 p]), recovered := false }]
def FineP (ts : List Tok) : Prop := (∀ t ∈ ts, okP t ∧ i64 t.1 ∧ i64 t.2.2.1 ∧ i64 t.2.2.2 ∧ t.2.1.length ≤ 100) ∧ ts.length ≤ 100000 ∧ ∃ us p, ts = us ++ [(5, [], 0, p)]
theorem FineP.ne {ts : List Tok} (h : FineP ts) : 0 < ts.length := by
  obtain ⟨_, _, us, p, rfl⟩ := h; simp
theorem FineP.tail {ts : List Tok} (h : FineP ts) (hn : ts.tail ≠ []) : FineP ts.tail := by
  obtain ⟨h1, h2, us, p, rfl⟩ := h
  refine ⟨fun t ht => h1 t (List.mem_of_mem_tail ht), by rw [List.length_tail]; omega, ?_⟩
  cases us with
  | nil => exact absurd rfl hn
  | cons t r => exact ⟨r, p, rfl⟩
theorem FineP.head {ts : List Tok} (h : FineP ts) : okP (hdT ts) ∧ i64 (hdT ts).1 ∧ i64 (hdT ts).2.2.1 ∧ i64 (hdT ts).2.2.2 ∧ (hdT ts).2.1.length ≤ 100 := by
  have hn := h.ne
  cases ts with
  | nil => simp at hn
  | cons t r => exact h.1 t (List.mem_cons_self ..)
theorem FineP.last {ts : List Tok} (h : FineP ts) (h5 : (hdT ts).1 ≠ 5 ∨ (hdT ts).2.1 ≠ []) : ts.tail ≠ [] := by
  obtain ⟨_, _, us, p, rfl⟩ := h
  cases us with
  | nil => simp [hdT] at h5
  | cons t r => simp
theorem FineP.oks {ts : List Tok} (h : FineP ts) : ∀ t ∈ ts, okP t := fun t ht => (h.1 t ht).1
/-- In this world the parser at g has these tokens ahead, within so many others; V: the world before it. -/
def StP (V w : World) (g : Nat) (ts : List Tok) (a : Nat) : Prop :=
  ∃ (A : Option Addr) (c : Nat), Rel V w ∧ V.heap.size ≤ g ∧ ToksAt V A ts ∧ FineP ts ∧ ts.length ≤ c ∧ c ≤ 9223372036854775807 ∧ a ≤ 100 ∧ Bk w g 70 #[.slice A ts.length c, .int .i64 a]
theorem StP.lt {V w : World} {g a : Nat} {ts : List Tok} (h : StP V w g ts a) : g < w.heap.size := by
  obtain ⟨_, _, _, _, _, _, _, _, _, hb⟩ := h; exact hb.lt
theorem StP.fine {V w : World} {g a : Nat} {ts : List Tok} (h : StP V w g ts a) : FineP ts := by
  obtain ⟨_, _, _, _, _, hf, _⟩ := h; exact hf
theorem StP.V {V w : World} {g a : Nat} {ts : List Tok} (h : StP V w g ts a) : Rel V w ∧ V.heap.size ≤ g := by
  obtain ⟨_, _, hr, hg, _⟩ := h; exact ⟨hr, hg⟩
theorem StP.rel {V w w' : World} {g a : Nat} {ts : List Tok} (h : StP V w g ts a) (hr : Rel w w') : StP V w' g ts a := by
  obtain ⟨A, c, h1, h2, h3, h4, h5, h6, h7, h8⟩ := h
  exact ⟨A, c, h1.trans hr, h2, h3, h4, h5, h6, h7, h8.rel hr⟩
theorem StP.grown {V w w' : World} {g a : Nat} {ts : List Tok} (h : StP V w g ts a) {b : Option Nat} (hg : w.grownBy w' b) (hb : some g ≠ b) (hV : ∀ k, b = some k → V.heap.size ≤ k) : StP V w' g ts a := by
  obtain ⟨A, c, h1, h2, h3, h4, h5, h6, h7, h8⟩ := h
  exact ⟨A, c, h1.grown hg hV, h2, h3, h4, h5, h6, h7, h8.grown hg hb⟩
theorem StP.around {V w : World} {g a : Nat} {ts : List Tok} (h : StP V w g ts a) (a' : Nat) (ha : a' ≤ 100) : StP V (w.setCell ⟨g, 1, none⟩ (.int .i64 a')) g ts a' ∧ w.grownBy (w.setCell ⟨g, 1, none⟩ (.int .i64 a')) (some g) := by
  obtain ⟨A, c, h1, h2, h3, h4, h5, h6, h7, h8⟩ := h
  exact ⟨⟨A, c, h1.setCell h2 _, h2, h3, h4, h5, h6, ha, h8.set_ 1 _⟩, set_grown w g 1 _⟩
theorem toks_tail {w : World} {g off : Nat} {t : Tok} {r : List Tok} (h : ToksAt w (some ⟨g, off, none⟩) (t :: r)) : ToksAt w (some ⟨g, off + 4, none⟩) r := by
  intro i hi
  obtain ⟨g', off', e, hl, a0, a1, a2, a3⟩ := h (i + 1) (by simpa using hi)
  cases e
  refine ⟨g, off + 4, rfl, hl, ?_, ?_, ?_, ?_⟩
  · rw [show off + 4 + i * 4 = off + (i + 1) * 4 by omega]; exact a0
  · rw [show off + 4 + i * 4 + 1 = off + (i + 1) * 4 + 1 by omega]; exact a1
  · rw [show off + 4 + i * 4 + 2 = off + (i + 1) * 4 + 2 by omega]; exact a2
  · rw [show off + 4 + i * 4 + 3 = off + (i + 1) * 4 + 3 by omega]; exact a3
theorem StP.step {V w : World} {g a gT off c : Nat} {t : Tok} {r : List Tok} (h1 : Rel V w) (h2 : V.heap.size ≤ g) (h3 : ToksAt V (some ⟨gT, off, none⟩) (t :: r)) (h4 : FineP (t :: r)) (h5 : (t :: r).length ≤ c) (h6 : c ≤ 9223372036854775807) (h7 : a ≤ 100) (h8 : Bk w g 70 #[.slice (some ⟨gT, off, none⟩) (t :: r).length c, .int .i64 a])
    (A : Option Addr) (n c' : Nat) (hA : r = [] ∨ A = some ⟨gT, off + 4, none⟩) (hn : n = r.length) (hc : c' = c - 1) (W : World) (hW : w.setCell ⟨g, 0, none⟩ (.slice A n c') = W) :
    (r ≠ [] → StP V W g r a) ∧ w.grownBy W (some g) ∧ ∃ S, Bk W g 70 #[S, .int .i64 a] := by
  subst hW hn hc
  refine ⟨fun hr => ?_, set_grown w g 0 _, _, h8.set_ 0 _⟩
  rcases hA with e | rfl
  · exact absurd e hr
  · exact ⟨_, _, h1.setCell h2 _, h2, toks_tail h3, h4.tail hr, by simp at h5 ⊢; omega, by omega, h7, h8.set_ 0 _⟩
theorem StP.fin {V w : World} {g a gT off c : Nat} {t : Tok} {r : List Tok} (h : Rel V w ∧ V.heap.size ≤ g ∧ ToksAt V (some ⟨gT, off, none⟩) (t :: r) ∧ FineP (t :: r) ∧ Bk w g 70 #[.slice (some ⟨gT, off, none⟩) (t :: r).length c, .int .i64 a]) (h5 : (t :: r).length ≤ c) (h6 : c ≤ 9223372036854775807) (h7 : a ≤ 100)
    (A : Option Addr) (n c' : Nat) (hA : r = [] ∨ A = some ⟨gT, off + 4, none⟩) (hn : n = r.length) (hc : c' = c - 1) (o1 o2 : Obj) :
    (¬ r = [] → StP V (((w.setCell ⟨g, 0, none⟩ (.slice A n c')).alloc o1).alloc o2) g r a) ∧ w.grownBy (((w.setCell ⟨g, 0, none⟩ (.slice A n c')).alloc o1).alloc o2) (some g) ∧ ∃ S, Bk (((w.setCell ⟨g, 0, none⟩ (.slice A n c')).alloc o1).alloc o2) g 70 #[S, .int .i64 a] := by
  obtain ⟨h1, h2, h3, h4, h8⟩ := h
  obtain ⟨k1, k2, S, k3⟩ := StP.step h1 h2 h3 h4 h5 h6 h7 h8 A n c' hA hn hc _ rfl
  have R := ((h1.setCell (p := ⟨g, 0, none⟩) h2 (.slice A n c')).self.alloc o1).alloc o2
  exact ⟨fun hr => (k1 hr).rel R, grown_trans k2 (grown_rel (some g) R), S, k3.rel R⟩
set_option maxRecDepth 100000 in
set_option maxHeartbeats 2000000 in
theorem pnext_any (V : World) (g a : Nat) (ts : List Tok) (w : World) (h : StP V w g ts a) :
    Calls Tryd.prog 46 #[.pointer (some ⟨g, 0, none⟩)] w fun e w' => e = .returned (TK (hdT ts)) ∧ (ts.tail ≠ [] → StP V w' g ts.tail a) ∧ w.grownBy w' (some g) ∧ ∃ S, Bk w' g 70 #[S, .int .i64 a] := by
  obtain ⟨A, c, h1, h2, h3, h4, h5, h6, h7, h8⟩ := h
  have hn := h4.ne
  cases ts with
  | nil => simp at hn
  | cons t r =>
    have hgl := h8.lt
    obtain ⟨gT, off, rfl, hb, x0, x1, x2, x3⟩ := (h3.rel h1) 0 (by simp)
    simp only [Nat.zero_mul, Nat.add_zero, List.getElem_cons_zero] at x0 x1 x2 x3
    obtain ⟨⟨c0, c1⟩, f0, f1⟩ := h8.two
    have HH := Lib.hid (And.intro h1 (And.intro h2 (And.intro h3 (And.intro h4 h8))))
    have hl1 : 1 ≤ (t :: r).length := by simp
    have HL := Lib.hid (show (t :: r).length - 1 = r.length by simp)
    have HNil := Lib.hid (show c = 1 → r = [] from fun e => by subst e; simp at h5; exact h5)
    have h5' := h5
    have H5 := Lib.hid h5'
    obtain ⟨m, hm⟩ : ∃ m, (t :: r).length = m := ⟨_, rfl⟩
    rw [hm] at c0 hl1 h5 HL
    clear h1 h2 h3 h4 h8 hm h5'
    go_enter Tryd.func46, Tryd.ntmps46
    go_wp2_with (fail)
    all_goals
      refine bodyPost_ret (v := TK t) (by simp [results, Tryd.results46, go_sem]) rfl ⟨rfl, ?_⟩
      first
        | exact StP.fin HH.out H5.out h6 h7 _ _ _ (.inr rfl) HL.out rfl _ _
        | exact StP.fin HH.out H5.out h6 h7 _ _ _ (.inl (HNil.out (by omega))) HL.out (by omega) _ _
end Go.Proofs.YtjhjdiaomnpkmaaDoor

namespace Go.Proofs.YtjhjdiaomnpkmaaDoor
open Go.RowKit Go.Lib
set_option linter.unusedVariables false
set_option linter.unusedSimpArgs false
theorem pwrong_any (t : Tok) (w : World) : Calls Tryd.prog 45 #[TK t] w fun e w' => e = .returned (.agg #[.int .i64 80, .int .i64 t.2.2.2]) ∧ w' = (w.alloc (.cells #[.int .i64 t.1, .string (B t.2.1), .int .i64 t.2.2.1, .int .i64 t.2.2.2] 65)).alloc (.cells #[.int .i64 80, .int .i64 t.2.2.2] 67) := by
  go_enter Tryd.func45, Tryd.ntmps45
  go_wp2_with (fail)
  refine bodyPost_ret (v := .agg #[.int .i64 80, .int .i64 t.2.2.2]) (by simp [results, Tryd.results45, go_sem]) rfl ⟨rfl, rfl⟩
theorem fail_grown {w w2 : World} {g : Nat} (h : w.grownBy w2 (some g)) (V : World) (hV : Rel V w2) (o1 o2 o3 : Obj) : w.grownBy (((w2.alloc o1).alloc o2).alloc o3) (some g) :=
  grown_trans h (grown_rel (some g) (((hV.self.alloc o1).alloc o2).alloc o3))
set_option maxRecDepth 100000 in
set_option maxHeartbeats 2000000 in
theorem psign_yes (V : World) (g a : Nat) (ts : List Tok) (c : List UInt8) (C : ByteArray) (hC : Hid (C = B c)) (w : World) (h : StP V w g ts a) (hc : (hdT ts).2.1 = c) (h0 : c ≠ []) :
    Calls Tryd.prog 60 #[.pointer (some ⟨g, 0, none⟩), .string C] w fun e w' => e = .returned (.tuple #[]) ∧ StP V w' g ts.tail a ∧ w.grownBy w' (some g) := by
  have HN := Lib.hid (pnext_any V g a ts w h)
  have HT := Lib.hid (h.fine.last (.inr (by rw [hc]; exact h0)))
  have HR := Lib.hid h.V.1
  obtain ⟨t, ht⟩ : ∃ t, hdT ts = t := ⟨_, rfl⟩
  rw [ht] at HN hc
  obtain rfl : C = B t.2.1 := by rw [hC.out, hc]
  have hb : ((B t.2.1).toList == (B t.2.1).toList) = true := by simp
  clear h ht hc hC
  go_enter Tryd.func60, Tryd.ntmps60
  go_wp2_with (go_at_call 46; (with_reducible refine HN.out.mono ?_); rintro e w2 ⟨rfl, s2, g2, _⟩; have S2 := Lib.hid s2; have G2 := Lib.hid g2; clear s2 g2)
  go_end0
  have R := (S2.out HT.out).V.1.self.alloc (.cells #[.int .i64 t.1, .string (B t.2.1), .int .i64 t.2.2.1, .int .i64 t.2.2.2] 65)
  exact ⟨rfl, (S2.out HT.out).rel R, grown_trans G2.out (grown_rel (some g) R)⟩
set_option maxRecDepth 100000 in
set_option maxHeartbeats 2000000 in
theorem psign_not (V : World) (g a : Nat) (ts : List Tok) (c : List UInt8) (C : ByteArray) (hC : Hid (C = B c)) (w : World) (h : StP V w g ts a) (hc : (hdT ts).2.1 ≠ c) :
    Calls Tryd.prog 60 #[.pointer (some ⟨g, 0, none⟩), .string C] w fun e w' => e = FLT 80 (atT ts) ∧ w.grownBy w' (some g) := by
  have HN := Lib.hid (pnext_any V g a ts w h)
  have HV := Lib.hid h.V
  obtain ⟨t, ht⟩ : ∃ t, hdT ts = t := ⟨_, rfl⟩
  have HA := Lib.hid (show atT ts = t.2.2.2 by unfold atT; rw [ht])
  rw [ht] at HN hc
  have hb : ((B t.2.1).toList == C.toList) = false := by rw [hC.out, B_toList, B_toList]; simpa using hc
  clear h ht hc hC
  go_enter Tryd.func60, Tryd.ntmps60
  go_wp2_with (first
    | (go_at_call 46; (with_reducible refine HN.out.mono ?_); rintro e w2 ⟨rfl, s2, g2, _⟩; have G2 := Lib.hid g2; clear s2 g2)
    | (go_at_call 45; (with_reducible refine (pwrong_any t _).mono ?_); rintro e w3 ⟨rfl, rfl⟩))
  exact ⟨rfl, by rw [HA.out], fail_grown G2.out V (HV.out.1.grown G2.out (fun k e => by cases e; exact HV.out.2)) _ _ _⟩
end Go.Proofs.YtjhjdiaomnpkmaaDoor

namespace Go.Proofs.YtjhjdiaomnpkmaaDoor
open Go.RowKit Go.Lib
set_option linter.unusedVariables false
set_option linter.unusedSimpArgs false
/-- What Lex tells of a text: tokens, an error, a place. -/
def Out (l : List UInt8) (ts : List Tok) (err place : Int) : Prop :=
  (2000 < l.length ∧ ts = [] ∧ err = 60 ∧ place = 2000) ∨ (l.length ≤ 2000 ∧ lx 0 l = .ok ts ∧ err = 0 ∧ place = 0) ∨ (l.length ≤ 2000 ∧ ∃ k : Nat, lx 0 l = .error k ∧ ts = [] ∧ err = 61 ∧ place = k)
theorem Out.det {l : List UInt8} {ts ts' : List Tok} {e e' p p' : Int} (h : Out l ts e p) (h' : Out l ts' e' p') : ts = ts' ∧ e = e' ∧ p = p' := by
  rcases h with ⟨a, rfl, rfl, rfl⟩ | ⟨a, b, rfl, rfl⟩ | ⟨a, k, b, rfl, rfl, rfl⟩ <;> rcases h' with ⟨a', rfl, rfl, rfl⟩ | ⟨a', b', rfl, rfl⟩ | ⟨a', k', b', rfl, rfl, rfl⟩
  · exact ⟨rfl, rfl, rfl⟩
  · omega
  · omega
  · omega
  · rw [b] at b'; injection b' with b'; exact ⟨b', rfl, rfl⟩
  · rw [b] at b'; cases b'
  · omega
  · rw [b] at b'; cases b'
  · rw [b] at b'; injection b' with b'; subst b'; exact ⟨rfl, rfl, rfl⟩
theorem B_cut (s : ByteArray) (i j : Nat) : s.extract i j = B ((s.data.toList.drop i).take (j - i)) := by
  apply ByteArray.ext
  apply Array.ext'
  simp [B, ByteArray.data_extract, List.extract_eq_take_drop]
theorem run_at (s : ByteArray) (p : Nat) (hp : p ≤ s.size) : ∃ m, p + m ≤ s.size ∧ (∀ j (h : p + j < s.size), j < m → isPt (s[p + j]'h) = true) ∧ (∀ h : p + m < s.size, isPt (s[p + m]'h) = false) ∧
    s.extract p (p + m) = B ((s.data.toList.drop p).takeWhile isPt) ∧ ((s.data.toList.drop p).takeWhile isPt).length = m ∧ (s.data.toList.drop p).dropWhile isPt = s.data.toList.drop (p + m) := by
  have el : s.data.toList.length = s.size := by simp
  obtain ⟨x, hx⟩ : ∃ x, (s.data.toList.drop p).takeWhile isPt = x := ⟨_, rfl⟩
  obtain ⟨r, hr⟩ : ∃ r, (s.data.toList.drop p).dropWhile isPt = r := ⟨_, rfl⟩
  have hL : s.data.toList.drop p = x ++ r := by rw [← hx, ← hr]; exact (List.takeWhile_append_dropWhile).symm
  have hlen : x.length + r.length = s.size - p := by rw [← List.length_append, ← hL, List.length_drop, el]
  have hat : ∀ j (h : p + j < s.size), (x ++ r)[j]? = some (s[p + j]'h) := fun j h => by
    rw [← hL, List.getElem?_drop, List.getElem?_eq_getElem (by omega)]; rfl
  have hall : x.all isPt = true := by rw [← hx]; exact all_run _
  refine ⟨x.length, by omega, ?_, ?_, ?_, by rw [hx], ?_⟩
  · intro j h hj
    have := hat j h
    rw [List.getElem?_append_left hj, List.getElem?_eq_getElem hj] at this
    rw [← Option.some.inj this]
    exact List.all_eq_true.1 hall _ (List.getElem_mem hj)
  · intro h
    have := hat x.length h
    rw [List.getElem?_append_right (Nat.le_refl _), Nat.sub_self] at this
    cases r with
    | nil => simp at this
    | cons d u =>
      simp at this
      rw [← this]
      have hd := List.head?_dropWhile_not isPt (s.data.toList.drop p)
      rw [hr] at hd
      simpa using hd
  · rw [B_cut, hx, hL, show p + x.length - p = x.length by omega, List.take_left]
  · rw [hr, ← List.drop_drop, hL, List.drop_left]
theorem TokOwn.row {w : World} {base : Nat} {v : Value} {ts : List Tok} (h : TokOwn w base v ts) : w.ownsRow base 65 4 v ts.length (cellsOf ts) := h
theorem drop_cons (s : ByteArray) (p : Nat) (h : p < s.size) : s.data.toList.drop p = (s[p]'h) :: s.data.toList.drop (p + 1) := by
  have el : s.data.toList.length = s.size := by simp
  rw [List.drop_eq_getElem_cons (by omega)]; rfl
theorem byte_eq {c d : UInt8} (n : Int) (hd : (d.toNat : Int) = n) : ((c.toNat : Int) == n) = (c == d) := by
  apply Bool.eq_iff_iff.2
  simp only [beq_iff_eq]
  constructor
  · intro e; exact UInt8.toNat_inj.1 (by omega)
  · rintro rfl; exact hd
theorem bl_bytes (c : UInt8) : isBl c = (((c.toNat : Int) == 32) || ((c.toNat : Int) == 10)) := by
  rw [byte_eq (d := 32) 32 rfl, byte_eq (d := 10) 10 rfl]; rfl
theorem sg_bytes (c : UInt8) : isSg c = (((c.toNat : Int) == 40) || ((c.toNat : Int) == 41) || ((c.toNat : Int) == 44)) := by
  rw [byte_eq (d := 40) 40 rfl, byte_eq (d := 41) 41 rfl, byte_eq (d := 44) 44 rfl]; rfl
end Go.Proofs.YtjhjdiaomnpkmaaDoor

namespace Go.Proofs.YtjhjdiaomnpkmaaDoor
open Go.Lib
set_option linter.unusedVariables false
set_option linter.unusedSimpArgs false
/-- The tokens ahead of an error, or all; the place of the error. -/
def lxP (p : Nat) (l : List UInt8) : List Tok × Option Nat :=
  match l with
  | [] => ([(5, [], 0, (p : Int))], none)
  | c :: t =>
    if isBl c then lxP (p + 1) t
    else if isSg c then ((4, [c], 0, (p : Int)) :: (lxP (p + 1) t).1, (lxP (p + 1) t).2)
    else
      match h : tokOf ((c :: t).takeWhile isPt) with
      | none => ([], some p)
      | some kn => ((kn.1, (c :: t).takeWhile isPt, kn.2, (p : Int)) :: (lxP (p + ((c :: t).takeWhile isPt).length) ((c :: t).dropWhile isPt)).1, (lxP (p + ((c :: t).takeWhile isPt).length) ((c :: t).dropWhile isPt)).2)
  termination_by l.length
  decreasing_by
    all_goals simp_wf
    all_goals
      have h1 := tokOf_ne (k := kn.1) (n := kn.2) h
      have h2 := run_len (c :: t)
      have h3 : 1 ≤ ((c :: t).takeWhile isPt).length := by
        rcases hx : (c :: t).takeWhile isPt with _ | ⟨a, b⟩
        · exact absurd hx h1
        · simp
      simp at h2 h3 ⊢
      omega
theorem lxP_nil (p : Nat) : lxP p [] = ([(5, [], 0, (p : Int))], none) := by rw [lxP]
theorem lxP_blank (p : Nat) (c : UInt8) (t : List UInt8) (h : isBl c = true) : lxP p (c :: t) = lxP (p + 1) t := by rw [lxP, if_pos h]
theorem lxP_sign (p : Nat) (c : UInt8) (t : List UInt8) (h : isBl c = false) (h' : isSg c = true) : lxP p (c :: t) = ((4, [c], 0, (p : Int)) :: (lxP (p + 1) t).1, (lxP (p + 1) t).2) := by
  rw [lxP, if_neg (by rw [h]; simp), if_pos h']
theorem lxP_bad (p : Nat) (c : UInt8) (t : List UInt8) (h : isBl c = false) (h' : isSg c = false) (hn : tokOf ((c :: t).takeWhile isPt) = none) : lxP p (c :: t) = ([], some p) := by
  rw [lxP, if_neg (by rw [h]; simp), if_neg (by rw [h']; simp)]
  split
  · rfl
  · rename_i h2; rw [hn] at h2; cases h2
theorem lxP_tok (p : Nat) (c : UInt8) (t : List UInt8) (k n : Int) (h : isBl c = false) (h' : isSg c = false) (hn : tokOf ((c :: t).takeWhile isPt) = some (k, n)) :
    lxP p (c :: t) = ((k, (c :: t).takeWhile isPt, n, (p : Int)) :: (lxP (p + ((c :: t).takeWhile isPt).length) ((c :: t).dropWhile isPt)).1, (lxP (p + ((c :: t).takeWhile isPt).length) ((c :: t).dropWhile isPt)).2) := by
  rw [lxP, if_neg (by rw [h]; simp), if_neg (by rw [h']; simp)]
  split
  · rename_i h2; rw [hn] at h2; cases h2
  · rename_i kn h2; rw [hn] at h2; cases h2; rfl
/-- What Lex tells, of what is told one behind the other. -/
def outP (r : List Tok × Option Nat) : Scan := match r.2 with
  | none => .ok r.1
  | some k => .error k
theorem lx_outP : ∀ (m : Nat) (s : List UInt8), s.length ≤ m → ∀ p : Nat, lx p s = outP (lxP p s) := by
  intro m
  induction m with
  | zero =>
    intro s hs p
    obtain rfl : s = [] := List.length_eq_zero_iff.1 (by omega)
    rw [lx_nil, lxP_nil]; rfl
  | succ m ih =>
    intro s hs p
    cases s with
    | nil => rw [lx_nil, lxP_nil]; rfl
    | cons c t =>
      simp only [List.length_cons] at hs
      have hp : ∀ (x : Tok) (r : List Tok × Option Nat), pre [x] (outP r) = outP (x :: r.1, r.2) := fun x r => by
        obtain ⟨a, b⟩ := r
        cases b <;> rfl
      cases hb : isBl c
      · cases hg : isSg c
        · cases hn : tokOf ((c :: t).takeWhile isPt) with
          | none => rw [lx_bad _ c t hb hg hn, lxP_bad _ c t hb hg hn]; rfl
          | some kn =>
            obtain ⟨k, j⟩ := kn
            have hx := tokOf_ne hn
            have h2 := run_len (c :: t)
            have h3 : 1 ≤ ((c :: t).takeWhile isPt).length := by
              rcases hx' : (c :: t).takeWhile isPt with _ | ⟨a, b⟩
              · exact absurd hx' hx
              · simp
            simp only [List.length_cons] at h2
            rw [lx_tok _ c t k j hb hg hn, lxP_tok _ c t k j hb hg hn, ih _ (by omega), hp]
        · rw [lx_sign _ c t hb hg, lxP_sign _ c t hb hg, ih t (by omega), hp]
      · rw [lx_blank _ c t hb, lxP_blank _ c t hb, ih t (by omega)]
/-- How far a scan is that tells one token behind the other. -/
def AtP (l : List UInt8) (p : Nat) (ts : List Tok) : Prop := lxP 0 l = (ts ++ (lxP p (l.drop p)).1, (lxP p (l.drop p)).2) ∧ ts.length ≤ p
theorem AtP.start (l : List UInt8) : AtP l 0 [] := ⟨rfl, Nat.le_refl _⟩
theorem AtP.blank {l : List UInt8} {p : Nat} {ts : List Tok} {c : UInt8} {t : List UInt8} (h : AtP l p ts) (hp : l.drop p = c :: t) (hb : isBl c = true) : AtP l (p + 1) ts := by
  have e : l.drop (p + 1) = t := by rw [← List.drop_drop, hp]; rfl
  exact ⟨by rw [h.1, hp, lxP_blank _ _ _ hb, e], by have := h.2; omega⟩
theorem AtP.sign {l : List UInt8} {p : Nat} {ts : List Tok} {c : UInt8} {t : List UInt8} (h : AtP l p ts) (hp : l.drop p = c :: t) (hb : isSg c = true) : AtP l (p + 1) (ts ++ [(4, [c], 0, (p : Int))]) ∧ ∃ r, (lxP 0 l).1 = ts ++ (4, [c], 0, (p : Int)) :: r := by
  have e : l.drop (p + 1) = t := by rw [← List.drop_drop, hp]; rfl
  refine ⟨⟨by rw [h.1, hp, lxP_sign _ _ _ (sg_not hb).1 hb, e]; simp, by have := h.2; simp; omega⟩, (lxP (p + 1) t).1, ?_⟩
  rw [h.1, hp, lxP_sign _ _ _ (sg_not hb).1 hb]
theorem AtP.tok {l : List UInt8} {p e : Nat} {ts : List Tok} {c : UInt8} {t x : List UInt8} {k n : Int} (h : AtP l p ts) (hp : l.drop p = c :: t) (hb : isBl c = false) (hg : isSg c = false)
    (hx : (l.drop p).takeWhile isPt = x) (hm : p + x.length = e) (hd : (l.drop p).dropWhile isPt = l.drop e) (ht : tokOf x = some (k, n)) : AtP l e (ts ++ [(k, x, n, (p : Int))]) ∧ ∃ r, (lxP 0 l).1 = ts ++ (k, x, n, (p : Int)) :: r := by
  have hm1 : 1 ≤ x.length := by
    have := tokOf_ne ht
    rcases x with _ | ⟨a, b⟩
    · exact absurd rfl this
    · simp
  rw [hp] at hx hd
  have q := lxP_tok p c t k n hb hg (by rw [hx]; exact ht)
  rw [hx, hd, hm] at q
  refine ⟨⟨by rw [h.1, hp, q]; simp, by have := h.2; simp; omega⟩, (lxP e (l.drop e)).1, ?_⟩
  rw [h.1, hp, q]
theorem AtP.bad {l : List UInt8} {p : Nat} {ts : List Tok} {c : UInt8} {t x : List UInt8} (h : AtP l p ts) (hp : l.drop p = c :: t) (hb : isBl c = false) (hg : isSg c = false)
    (hx : (l.drop p).takeWhile isPt = x) (ht : tokOf x = none) : lxP 0 l = (ts, some p) := by
  rw [hp] at hx
  rw [h.1, hp, lxP_bad _ _ _ hb hg (by rw [hx]; exact ht)]; simp
theorem AtP.done {l : List UInt8} {ts : List Tok} (h : AtP l l.length ts) : lxP 0 l = (ts ++ [(5, [], 0, (l.length : Int))], none) := by
  rw [h.1, List.drop_length, lxP_nil]
end Go.Proofs.YtjhjdiaomnpkmaaDoor
