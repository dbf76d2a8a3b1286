/- The base of layer 5: the relation of worlds, disks as two texts, what the document's own functions tell, and the premises on the program. -/
import Derived.Test.YthpekleafafmkaaProg
import Derived.WalkKit
import Derived.WalkSpells
import Derived.WalkLawsBesides
import Derived.BigQuiet
import Derived.Deep.QuietTactic
import Derived.Deep.RegionLaw
import Derived.Deep.RegionHeld3
import Derived.StillTailTactics
import Derived.Deep.DeepCutAuto
import Derived.Deep.Cut
import Derived.Lib.Hide
import Derived.Lib.SmallJoins
import Derived.Below
import Derived.Laws.IdiomStrings
namespace Go.Proofs.Ythpekleafafmkaa
open Go.RowKit Go.Lib
set_option linter.unusedVariables false
set_option linter.unusedSimpArgs false

def Tab (_ : World) : Prop := True
def Rel (w0 w : World) : Prop := Tab w0 ∧ Below w0.heap.size w0 w
theorem Rel.start {w : World} (h : Tab w) : Rel w w := ⟨h, Below.refl _ _⟩
theorem Rel.self {w0 w : World} (_ : Rel w0 w) : Rel w w := ⟨trivial, Below.refl _ _⟩
theorem Rel.trans {w0 w w' : World} (h : Rel w0 w) (h' : Rel w w') : Rel w0 w' := ⟨h.1, h.2.trans (h'.2.mono h.2.size)⟩
theorem Rel.alloc {w0 w : World} (h : Rel w0 w) (o : Obj) : Rel w0 (w.alloc o) := ⟨h.1, h.2.alloc h.2.size o⟩
theorem Rel.drew {w0 w : World} (h : Rel w0 w) : Rel w0 w.drew := ⟨h.1, h.2.drew⟩
theorem Rel.drewN {w0 w : World} (h : Rel w0 w) (n : Nat) : Rel w0 (w.drewN n) := ⟨h.1, ⟨h.2.os, h.2.tape, h.2.output, h.2.size, h.2.block⟩⟩
theorem Rel.setCell {w0 w : World} (h : Rel w0 w) {p : Addr} (hp : w0.heap.size ≤ p.block) (u : Value) : Rel w0 (w.setCell p u) := ⟨h.1, h.2.setCell hp u⟩

/-- A disk: what lasts, and what was appended since. -/
abbrev D (K P : ByteArray) : Value := .agg #[.string K, .string P]
abbrev E0 : ByteArray := ⟨#[]⟩
/-- How many of m bytes are the first n. -/
def cl (n : Int) (m : Nat) : Nat := min n.toNat m
def fst' (s : ByteArray) (n : Int) : ByteArray := s.extract 0 (cl n s.size)
theorem cl_le (n : Int) (m : Nat) : cl n m ≤ m := Nat.min_le_right _ _

/-- Block g is just these cells, none of them frozen. -/
def Bk (w : World) (g : Nat) (t : TypeId) (cs : Array Value) : Prop := w.heap[g]? = some (.cells cs t (0, 0))
theorem Bk.lt {w : World} {g : Nat} {t : TypeId} {cs : Array Value} (h : Bk w g t cs) : g < w.heap.size := by
  rcases Nat.lt_or_ge g w.heap.size with h' | h'
  · exact h'
  · unfold Bk at h; rw [Array.getElem?_eq_none h'] at h; cases h
theorem Bk.cell {w : World} {g : Nat} {t : TypeId} {cs : Array Value} (h : Bk w g t cs) (i : Nat) : w.cell? ⟨g, i, none⟩ = cs[i]? := cell_of_row w g i cs t (0, 0) h
theorem Bk.frozen {w : World} {g : Nat} {t : TypeId} {cs : Array Value} (h : Bk w g t cs) (i : Nat) : w.frozen? ⟨g, i, none⟩ = false := by
  unfold Bk at h; simp [World.frozen?, h]
theorem Bk.new (w : World) (t : TypeId) (cs : Array Value) : Bk (w.alloc (.cells cs t)) w.heap.size t cs := heap_alloc_new w _
theorem Bk.new_set (w : World) (p : Addr) (u : Value) (t : TypeId) (cs : Array Value) : Bk ((w.setCell p u).alloc (.cells cs t)) w.heap.size t cs := by
  have h := Bk.new (w.setCell p u) t cs
  rw [World.size_setCell] at h
  exact h
theorem Bk.alloc {w : World} {g : Nat} {t : TypeId} {cs : Array Value} (h : Bk w g t cs) (o : Obj) : Bk (w.alloc o) g t cs := (Below.heap_alloc w o g h.lt).trans h
theorem Bk.set_ {w : World} {g : Nat} {t : TypeId} {cs : Array Value} (h : Bk w g t cs) (i : Nat) (u : Value) : Bk (w.setCell ⟨g, i, none⟩ u) g t (cs.setIfInBounds i u) := by
  unfold Bk at h ⊢
  simp [World.setCell, Array.getElem?_modify, h]
theorem Bk.far {w : World} {g : Nat} {t : TypeId} {cs : Array Value} (h : Bk w g t cs) {p : Addr} (hp : g ≠ p.block) (u : Value) : Bk (w.setCell p u) g t cs := (Below.heap_setCell w p u g hp).trans h
theorem Bk.rel {w w' : World} {g : Nat} {t : TypeId} {cs : Array Value} (h : Bk w g t cs) (hr : Rel w w') : Bk w' g t cs := (hr.2.block g h.lt).trans h
theorem Bk.drew {w : World} {g : Nat} {t : TypeId} {cs : Array Value} (h : Bk w g t cs) : Bk w.drew g t cs := h
theorem Bk.two {w : World} {g : Nat} {t : TypeId} {x y : Value} (h : Bk w g t #[x, y]) :
    (w.cell? ⟨g, 0, none⟩ = some x ∧ w.cell? ⟨g, 1, none⟩ = some y) ∧ (w.frozen? ⟨g, 0, none⟩ = false ∧ w.frozen? ⟨g, 1, none⟩ = false) :=
  ⟨⟨h.cell 0, h.cell 1⟩, ⟨h.frozen 0, h.frozen 1⟩⟩
theorem Bk.put {w : World} {g : Nat} {t : TypeId} {x y : Value} (h : Bk w g t #[x, y]) (a b : Value) : Bk ((w.setCell ⟨g, 0, none⟩ a).setCell ⟨g, 1, none⟩ b) g t #[a, b] :=
  (h.set_ 0 a).set_ 1 b
theorem Bk.miss {w : World} {g g' : Nat} {t : TypeId} {cs : Array Value} (h : Bk w g t cs) (hg : g ≠ g') (a b : Value) : Bk ((w.setCell ⟨g', 0, none⟩ a).setCell ⟨g', 1, none⟩ b) g t cs :=
  (h.far hg a).far hg b
theorem Rel.put {w0 w : World} (h : Rel w0 w) {g : Nat} (hg : w0.heap.size ≤ g) (a b : Value) : Rel w0 ((w.setCell ⟨g, 0, none⟩ a).setCell ⟨g, 1, none⟩ b) := (h.setCell hg a).setCell hg b
theorem Rel.size {w0 w : World} (h : Rel w0 w) : w0.heap.size ≤ w.heap.size := h.2.size
/-- A box of the call's own that holds a disk. -/
abbrev Bx (w : World) (g : Nat) (K P : ByteArray) : Prop := Bk w g 23 #[.string K, .string P]
theorem Bx.snd (w : World) (cs : Array Value) (t : TypeId) (K P : ByteArray) : Bx ((w.alloc (.cells cs t)).alloc (.cells #[.string K, .string P] 23)) (w.heap.size + 1) K P := by
  have h := Bk.new (w.alloc (.cells cs t)) 23 #[.string K, .string P]
  rw [World.size_alloc] at h
  exact h
def AllOk : Prop := ∀ (K P : ByteArray), K.size ≤ 1000000 → P.size ≤ 1000000 → ∀ w0 w, Rel w0 w →
    Calls Try.prog 19 #[D K P] w fun e w' => e = .returned (.string (K ++ P)) ∧ Rel w0 w'
def SyncOk : Prop := ∀ (K P : ByteArray), K.size ≤ 1000000 → P.size ≤ 1000000 → ∀ w0 w, Rel w0 w →
    Calls Try.prog 17 #[D K P] w fun e w' => e = .returned (D (K ++ P) E0) ∧ Rel w0 w'
def CrashOk : Prop := ∀ (K P : ByteArray) (n : Int), K.size ≤ 1000000 → P.size ≤ 1000000 → (Lit.int .i64 n).wf = true → ∀ w0 w, Rel w0 w →
    Calls Try.prog 11 #[D K P, .int .i64 n] w fun e w' => e = .returned (D (K ++ fst' P n) E0) ∧ Rel w0 w'
def CutOk : Prop := ∀ (K P : ByteArray) (n : Int), K.size ≤ 1000000 → P.size ≤ 1000000 → (Lit.int .i64 n).wf = true → ∀ w0 w, Rel w0 w →
    Calls Try.prog 13 #[D K P, .int .i64 n] w fun e w' => e = .returned (D (fst' (K ++ P) n) E0) ∧ Rel w0 w'
def AppendOk : Prop := ∀ (K P S : ByteArray), K.size ≤ 1000000 → P.size ≤ 1000000 → S.size ≤ 2000000 → ∀ w0 w, Rel w0 w →
    Calls Try.prog 15 #[D K P, .string S] w fun e w' => e = .returned (.tuple #[if K.size + P.size + S.size ≤ 1000000 then D K (P ++ S) else D K P, .int .i64 (if K.size + P.size + S.size ≤ 1000000 then 0 else 50)]) ∧ Rel w0 w'
/-- All that is asked of the program. -/
def DiskOk : Prop := AllOk ∧ SyncOk ∧ CrashOk ∧ CutOk ∧ AppendOk

theorem all_of (H : DiskOk) (K P : ByteArray) (A : ByteArray) (hA : Hid (K ++ P = A)) (hK : K.size ≤ 1000000) (hP : P.size ≤ 1000000) (w0 w : World) (hr : Rel w0 w) :
    Calls Try.prog 19 #[D K P] w fun e w' => e = .returned (.string A) ∧ Rel w0 w' := by
  rw [← hA.out]; exact H.1 K P hK hP w0 w hr
theorem sync_of (H : DiskOk) (K P : ByteArray) (A : ByteArray) (hA : Hid (K ++ P = A)) (hK : K.size ≤ 1000000) (hP : P.size ≤ 1000000) (w0 w : World) (hr : Rel w0 w) :
    Calls Try.prog 17 #[D K P] w fun e w' => e = .returned (D A E0) ∧ Rel w0 w' := by
  rw [← hA.out]; exact H.2.1 K P hK hP w0 w hr
theorem crash_of (H : DiskOk) (K P : ByteArray) (n : Int) (A : ByteArray) (hA : Hid (K ++ fst' P n = A)) (hK : K.size ≤ 1000000) (hP : P.size ≤ 1000000) (hn : (Lit.int .i64 n).wf = true) (w0 w : World) (hr : Rel w0 w) :
    Calls Try.prog 11 #[D K P, .int .i64 n] w fun e w' => e = .returned (D A E0) ∧ Rel w0 w' := by
  rw [← hA.out]; exact H.2.2.1 K P n hK hP hn w0 w hr
theorem cut_of (H : DiskOk) (K P : ByteArray) (n : Int) (A : ByteArray) (hA : Hid (fst' (K ++ P) n = A)) (hK : K.size ≤ 1000000) (hP : P.size ≤ 1000000) (hn : (Lit.int .i64 n).wf = true) (w0 w : World) (hr : Rel w0 w) :
    Calls Try.prog 13 #[D K P, .int .i64 n] w fun e w' => e = .returned (D A E0) ∧ Rel w0 w' := by
  rw [← hA.out]; exact H.2.2.2.1 K P n hK hP hn w0 w hr
theorem app_of (H : DiskOk) (K P S : ByteArray) (A : ByteArray) (hA : Hid (P ++ S = A)) (h : K.size + P.size + S.size ≤ 1000000) (w0 w : World) (hr : Rel w0 w) :
    Calls Try.prog 15 #[D K P, .string S] w fun e w' => e = .returned (.tuple #[D K A, .int .i64 0]) ∧ Rel w0 w' := by
  have := H.2.2.2.2 K P S (by omega) (by omega) (by omega) w0 w hr
  rw [if_pos h, if_pos h, hA.out] at this
  exact this
theorem full_of (H : DiskOk) (K P S : ByteArray) (hK : K.size ≤ 1000000) (hP : P.size ≤ 1000000) (hS : S.size ≤ 2000000) (h : ¬ K.size + P.size + S.size ≤ 1000000) (w0 w : World) (hr : Rel w0 w) :
    Calls Try.prog 15 #[D K P, .string S] w fun e w' => e = .returned (.tuple #[D K P, .int .i64 50]) ∧ Rel w0 w' := by
  have := H.2.2.2.2 K P S hK hP hS w0 w hr
  rw [if_neg h, if_neg h] at this
  exact this
end Go.Proofs.Ythpekleafafmkaa
