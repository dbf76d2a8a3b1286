/- Layer 16: pushed in two orders, changed back, two heaps give out the same (HeapTurns). -/
import Derived.Test.YtminmcledbfchaaZL
import Derived.Test.YtminmcledbfchaaZ00
import Derived.Test.YtminmcledbfchaaZ01
import Derived.Test.YtminmcledbfchaaZ06
import Derived.Test.YtminmcledbfchaaZ12
namespace Go.Proofs.Ytminmcledbfchaa
open Go.RowKit Go.Lib
set_option linter.unusedVariables false
set_option linter.unusedSimpArgs false
/-- Keys lo to hi - 1, with prios by f. -/
def AtR (f : Nat → Int) (lo hi : Nat) (L : List It) : Prop := Srt L ∧ L.length + lo = hi ∧ ∀ z, z ∈ L ↔ ∃ k : Nat, lo ≤ k ∧ k < hi ∧ z = ((k : Int), f k)
theorem at_nil (f : Nat → Int) (n : Nat) : AtR f n n [] := ⟨srt_nil, by simp, fun z => ⟨fun h => absurd h List.not_mem_nil, fun ⟨k, h1, h2, _⟩ => absurd h2 (by omega)⟩⟩
theorem at_has {f : Nat → Int} {lo hi : Nat} {L : List It} (h : AtR f lo hi L) (k : Nat) : hasH L (k : Int) = true ↔ lo ≤ k ∧ k < hi := by
  rw [has_iff]
  constructor
  · rintro ⟨z, hz, e⟩
    obtain ⟨j, h1, h2, rfl⟩ := (h.2.2 z).1 hz
    have e : (j : Int) = (k : Int) := e
    omega
  · rintro ⟨h1, h2⟩
    exact ⟨((k : Int), f k), (h.2.2 _).2 ⟨k, h1, h2, rfl⟩, rfl⟩
theorem at_push {f : Nat → Int} {lo hi : Nat} {L : List It} (h : AtR f lo hi L) {k : Nat} (hk : k < lo ∨ hi ≤ k) (hl : L.length < 100) : pushE 100 L (k : Int) = 0 ∧ pushL 100 L (k : Int) (f k) = insH L ((k : Int), f k) ∧ Srt (insH L ((k : Int), f k)) := by
  have hn : hasH L (k : Int) = false := not_has fun e => by have := (at_has h k).1 e; omega
  have e : pushE 100 L (k : Int) = 0 := by
    unfold pushE
    rw [hn, if_neg (by simp), if_neg (by omega)]
  exact ⟨e, by unfold pushL; rw [if_pos e], ins_srt h.1 hn⟩
theorem at_up {f : Nat → Int} {lo hi : Nat} {L : List It} (h : AtR f lo hi L) (hl : L.length < 100) : AtR f lo (hi + 1) (insH L ((hi : Int), f hi)) := by
  have hle : lo ≤ hi := by have := h.2.1; omega
  refine ⟨(at_push h (.inr (Nat.le_refl _)) hl).2.2, by rw [ins_len]; have := h.2.1; omega, fun z => ?_⟩
  rw [ins_mem, h.2.2]
  constructor
  · rintro (rfl | ⟨k, h1, h2, rfl⟩)
    · exact ⟨hi, hle, by omega, rfl⟩
    · exact ⟨k, h1, by omega, rfl⟩
  · rintro ⟨k, h1, h2, rfl⟩
    by_cases e : k = hi
    · subst e; exact .inl rfl
    · exact .inr ⟨k, h1, by omega, rfl⟩
theorem at_dn {f : Nat → Int} {lo hi : Nat} {L : List It} (h : AtR f (lo + 1) hi L) (hl : L.length < 100) : AtR f lo hi (insH L ((lo : Int), f lo)) := by
  have hle : lo + 1 ≤ hi := by have := h.2.1; omega
  refine ⟨(at_push h (.inl (by omega)) hl).2.2, by rw [ins_len]; have := h.2.1; omega, fun z => ?_⟩
  rw [ins_mem, h.2.2]
  constructor
  · rintro (rfl | ⟨k, h1, h2, rfl⟩)
    · exact ⟨lo, by omega, by omega, rfl⟩
    · exact ⟨k, by omega, h2, rfl⟩
  · rintro ⟨k, h1, h2, rfl⟩
    by_cases e : k = lo
    · subst e; exact .inl rfl
    · exact .inr ⟨k, by omega, h2, rfl⟩
theorem at_same {f g : Nat → Int} {n : Nat} {L M : List It} (h : AtR f 0 n L) (h' : AtR g 0 n M) (e : ∀ k, k < n → g k = f k) : M = L := by
  refine srt_ext h'.1 h.1 fun z => ?_
  rw [h.2.2, h'.2.2]
  constructor
  · rintro ⟨k, h1, h2, rfl⟩; exact ⟨k, h1, h2, by rw [e k h2]⟩
  · rintro ⟨k, h1, h2, rfl⟩; exact ⟨k, h1, h2, by rw [e k h2]⟩
theorem at_back {f g : Nat → Int} {n s : Nat} {L M : List It} (h : AtR f 0 n L) (h' : AtR g 0 n M) (hs : s < n) (e : ∀ k, k < n → k ≠ s → g k = f k) : chgH M (s : Int) (f s) = L := by
  refine srt_ext (chg_srt h'.1 _ _) h.1 fun z => ?_
  rw [chg_mem h'.1, h.2.2, h'.2.2, at_has h' s]
  constructor
  · rintro (⟨rfl, _⟩ | ⟨⟨k, h1, h2, rfl⟩, h3⟩)
    · exact ⟨s, by omega, hs, rfl⟩
    · have h3 : (k : Int) ≠ (s : Int) := h3
      exact ⟨k, h1, h2, by rw [e k h2 (by omega)]⟩
  · rintro ⟨k, h1, h2, rfl⟩
    by_cases hk : k = s
    · subst hk; exact .inl ⟨rfl, by omega, hs⟩
    · refine .inr ⟨⟨k, h1, h2, by rw [e k h2 hk]⟩, ?_⟩
      show (k : Int) ≠ (s : Int)
      omega
/-- Two heaps apart. -/
def Twain (HP : HpT) (w0 w : World) (va vb : Value) (La Lb : List It) : Prop := ∃ Sa Sb : Nat → Prop, Hq HP w0 w va Sa 100 La ∧ Hq HP w0 w vb Sb 100 Lb ∧ ∀ k, Sa k → ¬ Sb k
section
variable {HP : HpT} (H : HeapOk HP) {w0 w w' : World} {va vb : Value} {La Lb L' : List It}
omit H in
theorem Twain.swap (h : Twain HP w0 w va vb La Lb) : Twain HP w0 w vb va Lb La := by
  obtain ⟨Sa, Sb, h1, h2, h3⟩ := h
  exact ⟨Sb, Sa, h2, h1, fun k hb ha => h3 k ha hb⟩
omit H in
theorem Twain.rel (h : Twain HP w0 w va vb La Lb) : Rel w0 w := by
  obtain ⟨_, _, h1, _⟩ := h
  exact h1.rel
include H
theorem Twain.to (h : Twain HP w0 w va vb La Lb) (hr : Rel w w') : Twain HP w0 w' va vb La Lb := by
  obtain ⟨Sa, Sb, h1, h2, h3⟩ := h
  exact ⟨Sa, Sb, h1.to H hr, h2.to H hr, h3⟩
theorem two_push (h : Twain HP w0 w va vb La Lb) {k p E : Int} (hk : i64 k) (hp : i64 p) (hE : pushE 100 La k = E) (hL : pushL 100 La k p = L') :
    Calls Try.prog 13 #[va, .int .i64 k, .int .i64 p] w fun e w' => e = .returned (.int .i64 E) ∧ Hid (Twain HP w0 w' va vb L' Lb) := by
  obtain ⟨Sa, Sb, h1, h2, h3⟩ := h
  refine (hpush16 H h1 hk hp hE hL).mono ?_
  rintro e w' ⟨S', rfl, h4, h5⟩
  obtain ⟨h6, h7⟩ := Hq.apart H h2 h1 h5.out h3
  exact ⟨rfl, Lib.hid ⟨S', Sb, h4.out, h6, h7⟩⟩
theorem two_chg (h : Twain HP w0 w va vb La Lb) {k p : Int} {b : Bool} (hk : i64 k) (hp : i64 p) (hb : hasH La k = b) (hL : chgH La k p = L') :
    Calls Try.prog 17 #[va, .int .i64 k, .int .i64 p] w fun e w' => e = .returned (.bool b) ∧ Hid (Twain HP w0 w' va vb L' Lb) := by
  obtain ⟨Sa, Sb, h1, h2, h3⟩ := h
  refine (hchg16 H h1 hk hp hb hL).mono ?_
  rintro e w' ⟨S', rfl, h4, h5⟩
  obtain ⟨h6, h7⟩ := Hq.apart H h2 h1 h5.out h3
  exact ⟨rfl, Lib.hid ⟨S', Sb, h4.out, h6, h7⟩⟩
end
end Go.Proofs.Ytminmcledbfchaa
