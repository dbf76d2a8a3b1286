/- Plain mathematics of layer 13: books and lists of sources. No program in this text; The law of layer 13 on what was put last (the stage's theorem), walked. -/
import Derived.Test.YtfplhpkolcgpiaaZL
import Derived.Test.YtfplhpkolcgpiaaZ00
import Derived.Test.YtfplhpkolcgpiaaZ01
import Derived.Test.YtfplhpkolcgpiaaZ07
import Derived.Test.YtfplhpkolcgpiaaZ18
namespace Go.Proofs.Ytfplhpkolcgpiaa
open Go.Lib
set_option linter.unusedVariables false
set_option linter.unusedSimpArgs false
theorem repl_self {b : List Sl} {y : Sl} (h : hasB b y.1 = true) : y ∈ replB b y := by
  induction b with
  | nil => cases h
  | cons z r ih =>
    rw [replB]
    split
    · exact List.mem_cons_self ..
    · rename_i e
      refine List.mem_cons_of_mem _ (ih ?_)
      unfold hasB at h ⊢
      rw [List.any_cons, decide_eq_false e, Bool.false_or] at h
      exact h
/-- Those of others stay. -/
theorem repl_other {b : List Sl} {y x : Sl} (hx : x.1 ≠ y.1) : x ∈ replB b y ↔ x ∈ b := by
  induction b with
  | nil => exact Iff.rfl
  | cons z r ih =>
    rw [replB]
    split
    · rename_i e
      rw [List.mem_cons, List.mem_cons]
      have h1 : x ≠ y := fun h => hx (by rw [h])
      have h2 : x ≠ z := fun h => hx (by rw [h, e])
      constructor
      · rintro (h | h)
        · exact absurd h h1
        · exact .inr h
      · rintro (h | h)
        · exact absurd h h2
        · exact .inr h
    · rw [List.mem_cons, List.mem_cons, ih]
theorem one_mem {b : List Sl} (h : oneB b) {x y : Sl} (hx : x ∈ b) (hy : y ∈ b) (e : x.1 = y.1) : x = y := by
  unfold oneB at h
  induction b with
  | nil => cases hx
  | cons z r ih =>
    rw [List.map_cons, List.nodup_cons] at h
    rcases List.mem_cons.1 hx with h1 | h1
    · rcases List.mem_cons.1 hy with h2 | h2
      · rw [h1, h2]
      · exact absurd (List.mem_map.2 ⟨y, h2, by rw [← e, h1]⟩) h.1
    · rcases List.mem_cons.1 hy with h2 | h2
      · exact absurd (List.mem_map.2 ⟨x, h1, by rw [e, h2]⟩) h.1
      · exact ih h.2 h1 h2
theorem put_full {b : List Sl} {s : List UInt8} {p k : Int} (ho : putOk s p k = true) (h : putB b s p k = .error 50) : 8 ≤ b.length ∧ hasB b s = false := by
  unfold putB at h
  rw [ho] at h
  simp only [if_true] at h
  cases hh : hasB b s with
  | true => rw [hh] at h; simp at h
  | false =>
    rw [hh] at h
    simp only [Bool.false_eq_true, if_false] at h
    by_cases h8 : 8 ≤ b.length
    · exact ⟨h8, rfl⟩
    · rw [if_neg h8] at h; cases h
theorem put_err {b : List Sl} {s : List UInt8} {p k e : Int} (ho : putOk s p k = true) (h : putB b s p k = .error e) : e = 50 := by
  unfold putB at h
  rw [ho] at h
  simp only [if_true] at h
  split at h
  · cases h
  · split at h
    · injection h with h; exact h.symm
    · cases h
theorem put_has {b c : List Sl} {s : List UInt8} {p k : Int} (hp : putB b s p k = .ok c) : (s, p, k) ∈ c := by
  obtain ⟨_, hc⟩ := put_cases hp
  rcases hc with ⟨hh, rfl⟩ | ⟨_, _, rfl⟩
  · exact repl_self hh
  · simp
theorem put_other {b c : List Sl} {s : List UInt8} {p k : Int} (hp : putB b s p k = .ok c) {x : Sl} (hx : x.1 ≠ s) : x ∈ c ↔ x ∈ b := by
  obtain ⟨_, hc⟩ := put_cases hp
  rcases hc with ⟨_, rfl⟩ | ⟨_, _, rfl⟩
  · exact repl_other hx
  · rw [List.mem_append, List.mem_singleton]
    exact ⟨fun h => h.elim id fun e => absurd (by rw [e]) hx, .inl⟩
end Go.Proofs.Ytfplhpkolcgpiaa

namespace Go.Proofs.Ytfplhpkolcgpiaa
open Go.RowKit Go.Lib
set_option linter.unusedVariables false
set_option linter.unusedSimpArgs false
/-- What is asked of Put, over a world that went on. -/
theorem put_at (H : BookOk) {w0 : World} {A : Option Addr} {c : Nat} {b V : List Sl} {s : List UInt8} {p k E : Int} {S : ByteArray} (hS : B s = S) (hs : s.length ≤ 12) (h : SlArg w0 A c b) (hV : putV b s p k = V) (hE : putE b s p k = E) (hok : bookOk V) (n m : Nat) (hn : b.length = n) (hm : V.length = m) (W : World) (hr : Rel w0 W) :
    Calls Try.prog 14 #[.slice A n c, .string S, .int .i64 p, .int .i64 k] W fun e w' => ∃ A2 c2, e = .returned (.tuple #[.slice A2 m c2, .int .i64 E]) ∧ Hid (SlArg w' A2 c2 V) ∧ Hid (Rel W w') := by
  have h1 := H.1 b s p k A c (by omega) W hr.self (h.rel hr)
  unfold PutPost at h1
  rw [hS, hV, hE, hn, hm] at h1
  exact h1.mono fun e w' ⟨A, c, he, hO, hr2⟩ => ⟨A, c, he, Lib.hid (BkOwn.arg_ok (by rw [hm]; exact hO) hok), Lib.hid hr2⟩
theorem put_ok_of {s : List UInt8} {p k : Int} (hs : isName s = true) (hp : 1 ≤ p ∧ p ≤ 1000000000000) (hk : 0 ≤ k ∧ k ≤ 1099511627776) : putOk s p k = true := by
  unfold putOk; rw [hs, decide_eq_true hp, decide_eq_true hk]; rfl
theorem put_is {b : List Sl} {s : List UInt8} {p k : Int} (ho : putOk s p k = true) : (putE b s p k = 0 ∧ putB b s p k = .ok (putV b s p k)) ∨ (putE b s p k = 50 ∧ 8 ≤ b.length ∧ hasB b s = false) := by
  cases h : putB b s p k with
  | ok c => exact .inl ⟨by unfold putE; rw [h], by unfold putV; rw [h]⟩
  | error e =>
    have he := put_err ho h
    subst he
    exact .inr ⟨by unfold putE; rw [h], put_full ho h⟩
end Go.Proofs.Ytfplhpkolcgpiaa
