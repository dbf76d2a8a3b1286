/- The law of layer 13 on drops, walked. -/
import Derived.Test.YtfplhpkolcgpiaaZL
import Derived.Test.YtfplhpkolcgpiaaZ00
import Derived.Test.YtfplhpkolcgpiaaZ01
import Derived.Test.YtfplhpkolcgpiaaZ12
namespace Go.Proofs.Ytfplhpkolcgpiaa
open Go.RowKit Go.Lib
set_option linter.unusedVariables false
set_option linter.unusedSimpArgs false
/-- What is asked of Drop, over a world that went on. -/
theorem drop_at (H : BookOk) {w0 : World} {A : Option Addr} {c : Nat} {b o : List Sl} {s : List UInt8} {S : ByteArray} (hS : B s = S) (hs : s.length ≤ 12) (h : SlArg w0 A c b) (hb : bookOk b) (ho : dropB b s = o) (n m : Nat) (hn : b.length = n) (hm : o.length = m) (W : World) (hr : Rel w0 W) :
    Calls Try.prog 19 #[.slice A n c, .string S] W fun e w' => ∃ A2 c2, e = .returned (.slice A2 m c2) ∧ Hid (SlArg w' A2 c2 o) ∧ Hid (Rel W w') := by
  have h1 := H.2.1 b A c s W (by omega) hr.self (h.rel hr)
  have h2 := book_drop hb s
  rw [hS, ho, hn, hm] at h1
  rw [ho] at h2
  exact h1.mono fun e w' ⟨A, c, he, hO, hr2⟩ => ⟨A, c, he, Lib.hid (BkOwn.arg_ok (by rw [hm]; exact hO) h2), Lib.hid hr2⟩
end Go.Proofs.Ytfplhpkolcgpiaa
