/- The document's own fine: a name, which has no arguments; The document's own fine, whole; Right and Print; The document's own Right and Print; The document's own answers of layer 9: a seller's price; what any expression tells; Eval and Cond; The document's own answers of layer 9: what any expression that may be tells; Eval and Cond; What is asked of the program, and the law's first calls; TreeUnlike, over what the program is asked; TreeGrows, over what the program is asked; The document's own answers of layer 9: Eval and Cond; What the laws of layer 9 lean on: what the program is asked, and the law's awake. -/
import Derived.Test.YtpehlldgnbajjaaDoorZ11
import Derived.Test.YtpehlldgnbajjaaDoorZ12
import Derived.Test.YtpehlldgnbajjaaDoorZ08
import Derived.Test.YtpehlldgnbajjaaDoorZ06
import Derived.Test.YtpehlldgnbajjaaDoorZ10
namespace Go.Proofs.YtpehlldgnbajjaaDoor
open Go.RowKit Go.Lib
set_option linter.unusedVariables false
set_option linter.unusedSimpArgs false

end Go.Proofs.YtpehlldgnbajjaaDoor

namespace Go.Proofs.YtpehlldgnbajjaaDoor
open Go.RowKit Go.Lib
set_option linter.unusedVariables false
set_option linter.unusedSimpArgs false

theorem str_empty (a : List UInt8) : ((B a).toList == []) = decide (a = []) := by
  rw [B_toList]; cases a <;> simp
theorem fine_all {d : Nat} {k : Int} {l : List Ex} : ((l.zipIdx).all fun p => (isCond p.1.k == (decide (k = 10) && decide (p.2 = 0))) && fine d p.1) = true ↔ ∀ i (h : i < l.length), okA d k l i h := by
  simp only [List.all_eq_true, Bool.and_eq_true, beq_iff_eq]
  constructor
  · intro h i hi
    exact h (l[i], i) (by rw [List.mem_iff_getElem]; exact ⟨i, by simpa using hi, by simp⟩)
  · rintro h ⟨y, i⟩ hy
    obtain ⟨j, hj, e⟩ := List.mem_iff_getElem.1 hy
    simp at hj e
    obtain ⟨rfl, rfl⟩ := e
    exact h j hj
theorem len_sizes : ∀ l : List Ex, l.length ≤ sizes l := fun l => by
  induction l with
  | nil => simp
  | cons x t ih => rw [sizes_cons, List.length_cons]; have := size_pos x; omega
end Go.Proofs.YtpehlldgnbajjaaDoor

namespace Go.Proofs.YtpehlldgnbajjaaDoor
open Go.RowKit Go.Lib
set_option linter.unusedVariables false
set_option linter.unusedSimpArgs false

/-- What Print tells: its text, or none. -/
def prT (x : Ex) : List UInt8 := if rightX x then text x else []
def prE (x : Ex) : Int := if rightX x then 0 else 1
end Go.Proofs.YtpehlldgnbajjaaDoor

namespace Go.Proofs.YtpehlldgnbajjaaDoor
open Go.RowKit Go.Lib
set_option linter.unusedVariables false
set_option linter.unusedSimpArgs false

theorem from_hit {os : List Of} {s : List UInt8} {i : Nat} (hi : i < os.length) (h : os[i].1 = s) (hn : ∀ k (hk : k < os.length), k < i → os[k].1 ≠ s) : fromO os s = some os[i].2 := by
  unfold fromO
  have : os.find? (fun o => decide (o.1 = s)) = some os[i] := by
    rw [List.find?_eq_some_iff_getElem]
    refine ⟨by simpa using h, i, hi, rfl, fun j hj => ?_⟩
    simpa using hn j (by omega) hj
  rw [this]; rfl
end Go.Proofs.YtpehlldgnbajjaaDoor

namespace Go.Proofs.YtpehlldgnbajjaaDoor
open Go.RowKit Go.Lib
set_option linter.unusedVariables false
set_option linter.unusedSimpArgs false

theorem er_ne {os : List Of} {d : Nat} {y : Ex} {er : Int} (h : toldN os d y = .error er) : (er != 0) = true := by
  have := told_err _ _ _ _ h; subst this; rfl
theorem erc_ne {os : List Of} {d : Nat} {y : Ex} {er : Int} (h : condN os d y = .error er) : (er != 0) = true := by
  have := cond_err _ _ _ _ h; subst this; rfl
theorem len0 {l : List Ex} (h : (0 : Int) = (l.length : Int)) : l = [] := List.length_eq_zero_iff.1 (by omega)
theorem len1 {l : List Ex} (h : (1 : Int) = (l.length : Int)) : ∃ a, l = [a] := List.length_eq_one_iff.1 (by omega)
theorem len2 {l : List Ex} (h : (2 : Int) = (l.length : Int)) : ∃ a b, l = [a, b] := by
  match l, h with
  | [a, b], _ => exact ⟨a, b, rfl⟩
  | [], h => simp at h
  | [_], h => simp at h
  | _ :: _ :: _ :: _, h => simp only [List.length_cons] at h; omega
theorem len3 {l : List Ex} (h : (3 : Int) = (l.length : Int)) : ∃ a b c, l = [a, b, c] := by
  match l, h with
  | [a, b, c], _ => exact ⟨a, b, c, rfl⟩
  | [], h => simp at h
  | [_], h => simp at h
  | [_, _], h => simp at h
  | _ :: _ :: _ :: _ :: _, h => simp only [List.length_cons] at h; omega
end Go.Proofs.YtpehlldgnbajjaaDoor

namespace Go.Proofs.YtpehlldgnbajjaaDoor
open Go.RowKit Go.Lib
set_option linter.unusedVariables false
set_option linter.unusedSimpArgs false

def PrintOk : Prop := ∀ (x : Ex) (S : Nat → Prop) (e : El) (w0 w : World), Rel w0 w → ExAt S w e x → size x ≤ 100000 → Calls Tryd.prog 32 #[EV e] w fun r w' => r = .returned (.tuple #[.string (B (prT x)), .int .i64 (prE x)]) ∧ Rel w0 w'
def RightOk : Prop := ∀ (x : Ex) (S : Nat → Prop) (e : El) (w0 w : World), Rel w0 w → ExAt S w e x → size x ≤ 100000 → Calls Tryd.prog 18 #[EV e] w fun r w' => r = .returned (.bool (rightX x)) ∧ Rel w0 w'
theorem ExAt.one {S : Nat → Prop} {w : World} {k n : Int} {nm : List UInt8} {g c : Nat} {a : El} {x : Ex} (hk : i64 k) (hn : i64 n) (hm : nm.length ≤ 100) (h : Bk w g 27 (cellsEs [a]).toArray) (hS : S g) (hx : ExAt S w a x) :
    ExAt S w (k, n, nm, some ⟨g, 0, none⟩, 1, c) (.mk k n nm [x]) :=
  .mk k n nm _ c [x] [a] hk hn hm rfl (RowE.of_bk h hS) fun i h h' => by
    match i, h, h' with
    | 0, _, _ => exact hx
def exLow : Ex := .mk 1 0 [] []
def exX : Ex := .mk 9 0 [] [.mk 5 1 [] [exLow], .mk 4 999 [] []]
def exTxt : List UInt8 := [101, 108, 115, 101, 40, 108, 101, 115, 115, 40, 108, 111, 119, 101, 115, 116, 44, 32, 48, 46, 48, 49, 41, 44, 32, 57, 46, 57, 57, 41]
theorem txt_small (a b c : Nat) (ha : a < 10) (hb : b < 10) (hc : c < 10) : txt ((a * 100 + b * 10 + c : Nat) : Int) = [UInt8.ofNat (48 + a), 46, UInt8.ofNat (48 + b), UInt8.ofNat (48 + c)] := by
  rw [txt_pos (by omega) (by omega)]
  unfold pos
  rw [show ((a * 100 + b * 10 + c : Nat) : Int).toNat / 100 = a by omega, show ((a * 100 + b * 10 + c : Nat) : Int).toNat / 10 % 10 = b by omega, show ((a * 100 + b * 10 + c : Nat) : Int).toNat % 10 = c by omega, dd_one _ ha, dd_one _ hb, dd_one _ hc]
  rfl
theorem exX_text : text exX = exTxt := by
  have e1 : txt 1 = [48, 46, 48, 49] := txt_small 0 0 1 (by omega) (by omega) (by omega)
  have e2 : txt 999 = [57, 46, 57, 57] := txt_small 9 9 9 (by omega) (by omega) (by omega)
  unfold exX exLow
  simp only [text_mk, texts_cons, texts_nil, mores_cons, mores_nil, tailK, e1, e2]
  decide
theorem exX_size : size exX = 4 := by unfold exX exLow; simp only [size_mk, sizes_cons, sizes_nil]
theorem exX_deep : deep exX = 3 := by unfold exX exLow; simp only [deep_mk, deeps_cons, deeps_nil]; decide
theorem exX_right : rightX exX = true := by
  unfold rightX
  rw [exX_text, exX_size]
  decide
theorem exX_print : prT exX = exTxt ∧ prE exX = 0 := by
  unfold prT prE; rw [exX_right, exX_text]; exact ⟨rfl, rfl⟩
theorem more_print : prT (.mk 11 0 [] []) = [] ∧ prE (.mk 11 0 [] []) = 1 := by
  have : rightX (.mk 11 0 [] []) = false := by unfold rightX; rw [show isCond (Ex.mk 11 0 [] []).k = true from rfl]; simp
  unfold prT prE; rw [this]; exact ⟨rfl, rfl⟩
theorem none_right : rightX (.mk 0 0 [] []) = false := by
  have : fine 32 (.mk 0 0 [] []) = false := by decide
  unfold rightX; rw [this]; simp
theorem low_ne : exX ≠ exLow := fun h => by unfold exX exLow at h; injection h with h; cases h
theorem arg1 {f : FuncId} {v v' : Value} {w : World} {Q : Ending → World → Prop} (hv : Hid (v = v')) (h : Calls Tryd.prog f #[v] w Q) : Calls Tryd.prog f #[v'] w Q := by rw [← hv.out]; exact h
theorem arg2 {f : FuncId} {v v' u u' : Value} {w : World} {Q : Ending → World → Prop} (hv : Hid (v = v')) (hu : Hid (u = u')) (h : Calls Tryd.prog f #[v, u] w Q) : Calls Tryd.prog f #[v', u'] w Q := by rw [← hv.out, ← hu.out]; exact h
theorem leaf11 (w : World) : ExAt (fun _ => True) w (11, 0, [], none, 0, 0) (.mk 11 0 [] []) := ExAt.leaf _ _ 11 0 [] none 0 ⟨by decide, by decide⟩ ⟨by decide, by decide⟩ (Nat.zero_le _)
theorem leaf0 (w : World) : ExAt (fun _ => True) w (0, 0, [], none, 0, 0) (.mk 0 0 [] []) := ExAt.leaf _ _ 0 0 [] none 0 ⟨by decide, by decide⟩ ⟨by decide, by decide⟩ (Nat.zero_le _)
/-- The blocks that awake makes. -/
theorem awake_world (w : World) : ∃ W : World, W = (((w.alloc (.cells #[.int .i64 1, .int .i64 0, .string ⟨#[]⟩, .slice none 0 0] 27)).alloc (.cells #[.int .i64 1, .int .i64 0, .string ⟨#[]⟩, .slice none 0 0] 27)).alloc
    (.cells #[.int .i64 5, .int .i64 1, .string ⟨#[]⟩, .slice (some ⟨w.heap.size + 1, 0, none⟩) 1 1, .int .i64 4, .int .i64 999, .string ⟨#[]⟩, .slice none 0 0] 27)).alloc (.cells #[.int .i64 9, .int .i64 0, .string ⟨#[]⟩, .slice (some ⟨w.heap.size + 2, 0, none⟩) 2 2] 27) ∧
    Bk W w.heap.size 27 #[.int .i64 1, .int .i64 0, .string ⟨#[]⟩, .slice none 0 0] ∧ Bk W (w.heap.size + 3) 27 #[.int .i64 9, .int .i64 0, .string ⟨#[]⟩, .slice (some ⟨w.heap.size + 2, 0, none⟩) 2 2] ∧
    ExAt (fun _ => True) W (9, 0, [], some ⟨w.heap.size + 2, 0, none⟩, 2, 2) exX ∧ ExAt (fun _ => True) W (1, 0, [], none, 0, 0) exLow := by
  refine ⟨_, rfl, ?_, ?_, ?_, ?_⟩
  · exact (((Bk.new w _ _).alloc _).alloc _).alloc _
  · have := Bk.new (((w.alloc (.cells #[.int .i64 1, .int .i64 0, .string ⟨#[]⟩, .slice none 0 0] 27)).alloc (.cells #[.int .i64 1, .int .i64 0, .string ⟨#[]⟩, .slice none 0 0] 27)).alloc
      (.cells #[.int .i64 5, .int .i64 1, .string ⟨#[]⟩, .slice (some ⟨w.heap.size + 1, 0, none⟩) 1 1, .int .i64 4, .int .i64 999, .string ⟨#[]⟩, .slice none 0 0] 27)) 27 #[.int .i64 9, .int .i64 0, .string ⟨#[]⟩, .slice (some ⟨w.heap.size + 2, 0, none⟩) 2 2]
    simp only [World.size_alloc] at this
    exact this
  · have b2 := Bk.new ((w.alloc (.cells #[.int .i64 1, .int .i64 0, .string ⟨#[]⟩, .slice none 0 0] 27)).alloc (.cells #[.int .i64 1, .int .i64 0, .string ⟨#[]⟩, .slice none 0 0] 27)) 27
      #[.int .i64 5, .int .i64 1, .string ⟨#[]⟩, .slice (some ⟨w.heap.size + 1, 0, none⟩) 1 1, .int .i64 4, .int .i64 999, .string ⟨#[]⟩, .slice none 0 0]
    simp only [World.size_alloc] at b2
    have b1 := Bk.snd w #[.int .i64 1, .int .i64 0, .string ⟨#[]⟩, .slice none 0 0] #[.int .i64 1, .int .i64 0, .string ⟨#[]⟩, .slice none 0 0] 27 27
    refine ExAt.two (a := (5, 1, [], some ⟨w.heap.size + 1, 0, none⟩, 1, 1)) (b := (4, 999, [], none, 0, 0)) ⟨by decide, by decide⟩ ⟨by decide, by decide⟩ (Nat.zero_le _) (b2.alloc _) trivial ?_ (ExAt.leaf _ _ 4 999 [] none 0 ⟨by decide, by decide⟩ ⟨by decide, by decide⟩ (Nat.zero_le _))
    exact ExAt.one (a := (1, 0, [], none, 0, 0)) ⟨by decide, by decide⟩ ⟨by decide, by decide⟩ (Nat.zero_le _) ((b1.alloc _).alloc _) trivial (ExAt.leaf _ _ 1 0 [] none 0 ⟨by decide, by decide⟩ ⟨by decide, by decide⟩ (Nat.zero_le _))
  · exact ExAt.leaf _ _ 1 0 [] none 0 ⟨by decide, by decide⟩ ⟨by decide, by decide⟩ (Nat.zero_le _)
end Go.Proofs.YtpehlldgnbajjaaDoor

namespace Go.Proofs.YtpehlldgnbajjaaDoor
open Go.RowKit Go.Lib
set_option linter.unusedVariables false
set_option linter.unusedSimpArgs false

theorem pr_of {x : Ex} {b : Bool} (h : rightX x = b) : prT x = (if b then text x else []) ∧ prE x = (if b then 0 else 1) := by
  unfold prT prE; rw [h]; exact ⟨rfl, rfl⟩
theorem right_inj {x y : Ex} (hx : rightX x = true) (hy : rightX y = true) : text x = text y ↔ x = y := by
  simp only [rightX, Bool.and_eq_true] at hx hy
  constructor
  · intro h
    exact (text_inj x y 32 32 hx.1.1.1 hy.1.1.1 [] [] rfl rfl (by rw [h])).1
  · intro h; rw [h]
theorem B_eq (a b : List UInt8) : ((B a).toList == (B b).toList) = decide (a = b) := by
  rw [B_toList, B_toList]
  by_cases h : a = b <;> simp [h]
end Go.Proofs.YtpehlldgnbajjaaDoor

namespace Go.Proofs.YtpehlldgnbajjaaDoor
open Go.RowKit Go.Lib
set_option linter.unusedVariables false
set_option linter.unusedSimpArgs false

theorem ExAt.three {S : Nat → Prop} {w : World} {k n : Int} {nm : List UInt8} {g c : Nat} {a b d : El} {x y z : Ex} (hk : i64 k) (hn : i64 n) (hm : nm.length ≤ 100) (h : Bk w g 27 (cellsEs [a, b, d]).toArray) (hS : S g) (hx : ExAt S w a x) (hy : ExAt S w b y) (hz : ExAt S w d z) :
    ExAt S w (k, n, nm, some ⟨g, 0, none⟩, 3, c) (.mk k n nm [x, y, z]) :=
  .mk k n nm _ c [x, y, z] [a, b, d] hk hn hm rfl (RowE.of_bk h hS) fun i h h' => by
    match i, h, h' with
    | 0, _, _ => exact hx
    | 1, _, _ => exact hy
    | 2, _, _ => exact hz
theorem ok64 {n : Int} (h : -100 ≤ n) (h' : n ≤ 100) : i64 n := ⟨by omega, by omega⟩
def exZ (x y : Ex) : Ex := .mk 8 0 [] [x, y]
def exA (x y : Ex) : Ex := .mk 12 0 [] [x, y]
def exW (x y : Ex) : Ex := .mk 10 0 [] [exA x y, x, y]
theorem z_size (x y : Ex) : size (exZ x y) = 1 + size x + size y := by unfold exZ; rw [size_mk, sizes_cons, sizes_cons, sizes_nil]; omega
theorem a_size (x y : Ex) : size (exA x y) = 1 + size x + size y := by unfold exA; rw [size_mk, sizes_cons, sizes_cons, sizes_nil]; omega
theorem w_size (x y : Ex) : size (exW x y) = 2 + 2 * size x + 2 * size y := by unfold exW; rw [size_mk, sizes_cons, sizes_cons, sizes_cons, sizes_nil, a_size]; omega
theorem z_deep (x y : Ex) : deep (exZ x y) = 1 + max (deep x) (deep y) := by unfold exZ; rw [deep_mk, deeps_cons, deeps_cons, deeps_nil]; omega
theorem a_deep (x y : Ex) : deep (exA x y) = 1 + max (deep x) (deep y) := by unfold exA; rw [deep_mk, deeps_cons, deeps_cons, deeps_nil]; omega
theorem w_deep (x y : Ex) : deep (exW x y) = 2 + max (deep x) (deep y) := by unfold exW; rw [deep_mk, deeps_cons, deeps_cons, deeps_cons, deeps_nil, a_deep]; omega
theorem a_right (x y : Ex) : rightX (exA x y) = false := by
  unfold rightX; rw [show isCond (exA x y).k = true from rfl]; simp
/-- The blocks that the law makes of both. -/
theorem grows_world (w0 w : World) (hr : Rel w0 w) (vx vy : El) (x y : Ex) (S S' : Nat → Prop) (ex : ExAt S w vx x) (ey : ExAt S' w vy y) (s : Nat) (hs : w.heap.size = s) :
    ∃ W : World, W = (((((w.alloc (.cells #[.int .i64 vx.1, .int .i64 vx.2.1, .string (B vx.2.2.1), .slice vx.2.2.2.1 vx.2.2.2.2.1 vx.2.2.2.2.2, .int .i64 vy.1, .int .i64 vy.2.1, .string (B vy.2.2.1), .slice vy.2.2.2.1 vy.2.2.2.2.1 vy.2.2.2.2.2] 27)).alloc (.cells #[.int .i64 8, .int .i64 0, .string ⟨#[]⟩, .slice (some ⟨s, 0, none⟩) 2 2] 27)).alloc (.cells #[.int .i64 vx.1, .int .i64 vx.2.1, .string (B vx.2.2.1), .slice vx.2.2.2.1 vx.2.2.2.2.1 vx.2.2.2.2.2, .int .i64 vy.1, .int .i64 vy.2.1, .string (B vy.2.2.1), .slice vy.2.2.2.1 vy.2.2.2.2.1 vy.2.2.2.2.2] 27)).alloc (.cells #[.int .i64 12, .int .i64 0, .string ⟨#[]⟩, .slice (some ⟨s + 2, 0, none⟩) 2 2, .int .i64 vx.1, .int .i64 vx.2.1, .string (B vx.2.2.1), .slice vx.2.2.2.1 vx.2.2.2.2.1 vx.2.2.2.2.2, .int .i64 vy.1, .int .i64 vy.2.1, .string (B vy.2.2.1), .slice vy.2.2.2.1 vy.2.2.2.2.1 vy.2.2.2.2.2] 27)).alloc (.cells #[.int .i64 10, .int .i64 0, .string ⟨#[]⟩, .slice (some ⟨s + 3, 0, none⟩) 3 3] 27)) ∧ Rel w W ∧
    Bk W (s + 1) 27 #[.int .i64 8, .int .i64 0, .string ⟨#[]⟩, .slice (some ⟨s, 0, none⟩) 2 2] ∧ Bk W (s + 4) 27 #[.int .i64 10, .int .i64 0, .string ⟨#[]⟩, .slice (some ⟨s + 3, 0, none⟩) 3 3] ∧
    (∀ w', Rel W w' → w'.cell? ⟨s + 3, 0, none⟩ = some (.int .i64 12) ∧ w'.cell? ⟨s + 3, 1, none⟩ = some (.int .i64 0) ∧ w'.cell? ⟨s + 3, 2, none⟩ = some (.string ⟨#[]⟩) ∧ w'.cell? ⟨s + 3, 3, none⟩ = some (.slice (some ⟨s + 2, 0, none⟩) 2 2)) ∧
    ExAt (fun _ => True) W (8, 0, [], some ⟨s, 0, none⟩, 2, 2) (exZ x y) ∧ ExAt (fun _ => True) W (12, 0, [], some ⟨s + 2, 0, none⟩, 2, 2) (exA x y) ∧ ExAt (fun _ => True) W (10, 0, [], some ⟨s + 3, 0, none⟩, 3, 3) (exW x y) := by
  have R1 := hr.self.alloc (.cells #[.int .i64 vx.1, .int .i64 vx.2.1, .string (B vx.2.2.1), .slice vx.2.2.2.1 vx.2.2.2.2.1 vx.2.2.2.2.2, .int .i64 vy.1, .int .i64 vy.2.1, .string (B vy.2.2.1), .slice vy.2.2.2.1 vy.2.2.2.2.1 vy.2.2.2.2.2] 27)
  have R2 := R1.alloc (.cells #[.int .i64 8, .int .i64 0, .string ⟨#[]⟩, .slice (some ⟨s, 0, none⟩) 2 2] 27)
  have R3 := R2.alloc (.cells #[.int .i64 vx.1, .int .i64 vx.2.1, .string (B vx.2.2.1), .slice vx.2.2.2.1 vx.2.2.2.2.1 vx.2.2.2.2.2, .int .i64 vy.1, .int .i64 vy.2.1, .string (B vy.2.2.1), .slice vy.2.2.2.1 vy.2.2.2.2.1 vy.2.2.2.2.2] 27)
  have R4 := R3.alloc (.cells #[.int .i64 12, .int .i64 0, .string ⟨#[]⟩, .slice (some ⟨s + 2, 0, none⟩) 2 2, .int .i64 vx.1, .int .i64 vx.2.1, .string (B vx.2.2.1), .slice vx.2.2.2.1 vx.2.2.2.2.1 vx.2.2.2.2.2, .int .i64 vy.1, .int .i64 vy.2.1, .string (B vy.2.2.1), .slice vy.2.2.2.1 vy.2.2.2.2.1 vy.2.2.2.2.2] 27)
  have R5 := R4.alloc (.cells #[.int .i64 10, .int .i64 0, .string ⟨#[]⟩, .slice (some ⟨s + 3, 0, none⟩) 3 3] 27)
  have b0 := Bk.new w 27 #[.int .i64 vx.1, .int .i64 vx.2.1, .string (B vx.2.2.1), .slice vx.2.2.2.1 vx.2.2.2.2.1 vx.2.2.2.2.2, .int .i64 vy.1, .int .i64 vy.2.1, .string (B vy.2.2.1), .slice vy.2.2.2.1 vy.2.2.2.2.1 vy.2.2.2.2.2]
  have b1 := Bk.new (w.alloc (.cells #[.int .i64 vx.1, .int .i64 vx.2.1, .string (B vx.2.2.1), .slice vx.2.2.2.1 vx.2.2.2.2.1 vx.2.2.2.2.2, .int .i64 vy.1, .int .i64 vy.2.1, .string (B vy.2.2.1), .slice vy.2.2.2.1 vy.2.2.2.2.1 vy.2.2.2.2.2] 27)) 27 #[.int .i64 8, .int .i64 0, .string ⟨#[]⟩, .slice (some ⟨s, 0, none⟩) 2 2]
  have b2 := Bk.new ((w.alloc (.cells #[.int .i64 vx.1, .int .i64 vx.2.1, .string (B vx.2.2.1), .slice vx.2.2.2.1 vx.2.2.2.2.1 vx.2.2.2.2.2, .int .i64 vy.1, .int .i64 vy.2.1, .string (B vy.2.2.1), .slice vy.2.2.2.1 vy.2.2.2.2.1 vy.2.2.2.2.2] 27)).alloc (.cells #[.int .i64 8, .int .i64 0, .string ⟨#[]⟩, .slice (some ⟨s, 0, none⟩) 2 2] 27)) 27 #[.int .i64 vx.1, .int .i64 vx.2.1, .string (B vx.2.2.1), .slice vx.2.2.2.1 vx.2.2.2.2.1 vx.2.2.2.2.2, .int .i64 vy.1, .int .i64 vy.2.1, .string (B vy.2.2.1), .slice vy.2.2.2.1 vy.2.2.2.2.1 vy.2.2.2.2.2]
  have b3 := Bk.new (((w.alloc (.cells #[.int .i64 vx.1, .int .i64 vx.2.1, .string (B vx.2.2.1), .slice vx.2.2.2.1 vx.2.2.2.2.1 vx.2.2.2.2.2, .int .i64 vy.1, .int .i64 vy.2.1, .string (B vy.2.2.1), .slice vy.2.2.2.1 vy.2.2.2.2.1 vy.2.2.2.2.2] 27)).alloc (.cells #[.int .i64 8, .int .i64 0, .string ⟨#[]⟩, .slice (some ⟨s, 0, none⟩) 2 2] 27)).alloc (.cells #[.int .i64 vx.1, .int .i64 vx.2.1, .string (B vx.2.2.1), .slice vx.2.2.2.1 vx.2.2.2.2.1 vx.2.2.2.2.2, .int .i64 vy.1, .int .i64 vy.2.1, .string (B vy.2.2.1), .slice vy.2.2.2.1 vy.2.2.2.2.1 vy.2.2.2.2.2] 27)) 27 #[.int .i64 12, .int .i64 0, .string ⟨#[]⟩, .slice (some ⟨s + 2, 0, none⟩) 2 2, .int .i64 vx.1, .int .i64 vx.2.1, .string (B vx.2.2.1), .slice vx.2.2.2.1 vx.2.2.2.2.1 vx.2.2.2.2.2, .int .i64 vy.1, .int .i64 vy.2.1, .string (B vy.2.2.1), .slice vy.2.2.2.1 vy.2.2.2.2.1 vy.2.2.2.2.2]
  have b4 := Bk.new ((((w.alloc (.cells #[.int .i64 vx.1, .int .i64 vx.2.1, .string (B vx.2.2.1), .slice vx.2.2.2.1 vx.2.2.2.2.1 vx.2.2.2.2.2, .int .i64 vy.1, .int .i64 vy.2.1, .string (B vy.2.2.1), .slice vy.2.2.2.1 vy.2.2.2.2.1 vy.2.2.2.2.2] 27)).alloc (.cells #[.int .i64 8, .int .i64 0, .string ⟨#[]⟩, .slice (some ⟨s, 0, none⟩) 2 2] 27)).alloc (.cells #[.int .i64 vx.1, .int .i64 vx.2.1, .string (B vx.2.2.1), .slice vx.2.2.2.1 vx.2.2.2.2.1 vx.2.2.2.2.2, .int .i64 vy.1, .int .i64 vy.2.1, .string (B vy.2.2.1), .slice vy.2.2.2.1 vy.2.2.2.2.1 vy.2.2.2.2.2] 27)).alloc (.cells #[.int .i64 12, .int .i64 0, .string ⟨#[]⟩, .slice (some ⟨s + 2, 0, none⟩) 2 2, .int .i64 vx.1, .int .i64 vx.2.1, .string (B vx.2.2.1), .slice vx.2.2.2.1 vx.2.2.2.2.1 vx.2.2.2.2.2, .int .i64 vy.1, .int .i64 vy.2.1, .string (B vy.2.2.1), .slice vy.2.2.2.1 vy.2.2.2.2.1 vy.2.2.2.2.2] 27)) 27 #[.int .i64 10, .int .i64 0, .string ⟨#[]⟩, .slice (some ⟨s + 3, 0, none⟩) 3 3]
  simp only [World.size_alloc, hs] at b0 b1 b2 b3 b4
  have a1 := ((b1.alloc (.cells #[.int .i64 vx.1, .int .i64 vx.2.1, .string (B vx.2.2.1), .slice vx.2.2.2.1 vx.2.2.2.2.1 vx.2.2.2.2.2, .int .i64 vy.1, .int .i64 vy.2.1, .string (B vy.2.2.1), .slice vy.2.2.2.1 vy.2.2.2.2.1 vy.2.2.2.2.2] 27)).alloc (.cells #[.int .i64 12, .int .i64 0, .string ⟨#[]⟩, .slice (some ⟨s + 2, 0, none⟩) 2 2, .int .i64 vx.1, .int .i64 vx.2.1, .string (B vx.2.2.1), .slice vx.2.2.2.1 vx.2.2.2.2.1 vx.2.2.2.2.2, .int .i64 vy.1, .int .i64 vy.2.1, .string (B vy.2.2.1), .slice vy.2.2.2.1 vy.2.2.2.2.1 vy.2.2.2.2.2] 27)).alloc (.cells #[.int .i64 10, .int .i64 0, .string ⟨#[]⟩, .slice (some ⟨s + 3, 0, none⟩) 3 3] 27)
  have a0 := (((b0.alloc (.cells #[.int .i64 8, .int .i64 0, .string ⟨#[]⟩, .slice (some ⟨s, 0, none⟩) 2 2] 27)).alloc (.cells #[.int .i64 vx.1, .int .i64 vx.2.1, .string (B vx.2.2.1), .slice vx.2.2.2.1 vx.2.2.2.2.1 vx.2.2.2.2.2, .int .i64 vy.1, .int .i64 vy.2.1, .string (B vy.2.2.1), .slice vy.2.2.2.1 vy.2.2.2.2.1 vy.2.2.2.2.2] 27)).alloc (.cells #[.int .i64 12, .int .i64 0, .string ⟨#[]⟩, .slice (some ⟨s + 2, 0, none⟩) 2 2, .int .i64 vx.1, .int .i64 vx.2.1, .string (B vx.2.2.1), .slice vx.2.2.2.1 vx.2.2.2.2.1 vx.2.2.2.2.2, .int .i64 vy.1, .int .i64 vy.2.1, .string (B vy.2.2.1), .slice vy.2.2.2.1 vy.2.2.2.2.1 vy.2.2.2.2.2] 27)).alloc (.cells #[.int .i64 10, .int .i64 0, .string ⟨#[]⟩, .slice (some ⟨s + 3, 0, none⟩) 3 3] 27)
  have a2 := (b2.alloc (.cells #[.int .i64 12, .int .i64 0, .string ⟨#[]⟩, .slice (some ⟨s + 2, 0, none⟩) 2 2, .int .i64 vx.1, .int .i64 vx.2.1, .string (B vx.2.2.1), .slice vx.2.2.2.1 vx.2.2.2.2.1 vx.2.2.2.2.2, .int .i64 vy.1, .int .i64 vy.2.1, .string (B vy.2.2.1), .slice vy.2.2.2.1 vy.2.2.2.2.1 vy.2.2.2.2.2] 27)).alloc (.cells #[.int .i64 10, .int .i64 0, .string ⟨#[]⟩, .slice (some ⟨s + 3, 0, none⟩) 3 3] 27)
  have a3 := b3.alloc (.cells #[.int .i64 10, .int .i64 0, .string ⟨#[]⟩, .slice (some ⟨s + 3, 0, none⟩) 3 3] 27)
  have EX := (ex.rel R5).weak (S' := fun _ => True) (fun _ _ => trivial)
  have EY := (ey.rel R5).weak (S' := fun _ => True) (fun _ _ => trivial)
  have EA := ExAt.two (k := 12) (n := 0) (nm := []) (c := 2) (ok64 (by decide) (by decide)) (ok64 (by decide) (by decide)) (Nat.zero_le _) a2 trivial EX EY
  refine ⟨_, rfl, R5, a1, b4, fun w' h => ?_, ?_, EA, ?_⟩
  · have := a3.rel h
    exact ⟨by rw [this.cell]; rfl, by rw [this.cell]; rfl, by rw [this.cell]; rfl, by rw [this.cell]; rfl⟩
  · exact ExAt.two (k := 8) (n := 0) (nm := []) (c := 2) (ok64 (by decide) (by decide)) (ok64 (by decide) (by decide)) (Nat.zero_le _) a0 trivial EX EY
  · exact ExAt.three (a := (12, 0, [], some ⟨s + 2, 0, none⟩, 2, 2)) (b := vx) (d := vy) (k := 10) (n := 0) (nm := []) (c := 3) (ok64 (by decide) (by decide)) (ok64 (by decide) (by decide)) (Nat.zero_le _) a3 trivial EA EX EY
end Go.Proofs.YtpehlldgnbajjaaDoor

namespace Go.Proofs.YtpehlldgnbajjaaDoor
open Go.RowKit Go.Lib
set_option linter.unusedVariables false
set_option linter.unusedSimpArgs false

theorem right_fine {x : Ex} (h : rightX x = true) : fine 32 x = true ∧ isCond x.k = false := by
  unfold rightX at h
  simp only [Bool.and_eq_true, Bool.not_eq_true'] at h
  exact ⟨h.1.1.1, h.1.1.2⟩
theorem ifX_size (x : Ex) : size (ifX x) = size x + 3 := by unfold ifX exLw; simp only [size_mk, sizes_cons, sizes_nil]; omega
theorem ifX_fine {x : Ex} (h : rightX (ifX x) = true) : fine 32 x = true ∧ isCond x.k = true := by
  have h := right_fine h
  obtain ⟨_, _, _, _, h5⟩ := fine_parts h.1
  obtain ⟨g0, f0⟩ := h5 0 (by simp)
  exact ⟨fine_less _ 31 32 f0 (by have := fine_deep _ _ f0; simp only [List.getElem_cons_zero] at this ⊢; omega), g0⟩
theorem lw_at (S : Nat → Prop) (w : World) : ExAt S w (1, 0, [], none, 0, 0) exLw := ExAt.leaf S w 1 0 [] none 0 ⟨by decide, by decide⟩ ⟨by decide, by decide⟩ (Nat.zero_le _)
end Go.Proofs.YtpehlldgnbajjaaDoor

namespace Go.Proofs.YtpehlldgnbajjaaDoor
open Go.RowKit Go.Lib
set_option linter.unusedVariables false
set_option linter.unusedSimpArgs false

def VRightOk : Prop := ∀ (A : Option Addr) (c : Nat) (os : List Of) (w0 w : World), Rel w0 w → OffArg w A c os → Calls Tryd.prog 16 #[.slice A os.length c] w fun z w' => z = .returned (.bool (offsOk os)) ∧ Rel w0 w'
def EvalOk : Prop := ∀ (x : Ex) (S : Nat → Prop) (e : El) (A : Option Addr) (c : Nat) (os : List Of) (w0 w : World), Rel w0 w → ExAt S w e x → size x ≤ 90000 → OffArg w A c os →
    Calls Tryd.prog 11 #[EV e, .slice A os.length c] w fun z w' => z = .returned (RV (evalS os x)) ∧ Rel w0 w'
def CondOk : Prop := ∀ (x : Ex) (S : Nat → Prop) (e : El) (A : Option Addr) (c : Nat) (os : List Of) (w0 w : World), Rel w0 w → ExAt S w e x → size x ≤ 90000 → OffArg w A c os →
    Calls Tryd.prog 15 #[EV e, .slice A os.length c] w fun z w' => z = .returned (CV (condS os x)) ∧ Rel w0 w'
/-- What the program is shown to tell. -/
def ValueOk : Prop := VRightOk ∧ EvalOk ∧ CondOk
/-- A call of Eval, what it tells spelled. -/
theorem eval_as (H : ValueOk) (x : Ex) (os : List Of) (v : Int) (b : Bool) (er : Int) (hv : Hid (RV (evalS os x) = .tuple #[.int .i64 v, .bool b, .int .i64 er])) (S : Nat → Prop) (e : El) (A : Option Addr) (c : Nat) (w0 w : World) (hr : Rel w0 w) (h : ExAt S w e x) (hz : size x ≤ 90000) (ho : OffArg w A c os) (ev ov : Value) (he : Hid (EV e = ev)) (hov : Hid (Value.slice A os.length c = ov)) :
    Calls Tryd.prog 11 #[ev, ov] w fun z w' => z = .returned (.tuple #[.int .i64 v, .bool b, .int .i64 er]) ∧ Rel w0 w' := by
  rw [← he.out, ← hov.out, ← hv.out]; exact H.2.1 x S e A c os w0 w hr h hz ho
theorem cond9_as (H : ValueOk) (x : Ex) (os : List Of) (b : Bool) (er : Int) (hv : Hid (CV (condS os x) = .tuple #[.bool b, .int .i64 er])) (S : Nat → Prop) (e : El) (A : Option Addr) (c : Nat) (w0 w : World) (hr : Rel w0 w) (h : ExAt S w e x) (hz : size x ≤ 90000) (ho : OffArg w A c os) (ev ov : Value) (he : Hid (EV e = ev)) (hov : Hid (Value.slice A os.length c = ov)) :
    Calls Tryd.prog 15 #[ev, ov] w fun z w' => z = .returned (.tuple #[.bool b, .int .i64 er]) ∧ Rel w0 w' := by
  rw [← he.out, ← hov.out, ← hv.out]; exact H.2.2 x S e A c os w0 w hr h hz ho
theorem vright_as (H : ValueOk) (os : List Of) (b : Bool) (hv : Hid (offsOk os = b)) (A : Option Addr) (c : Nat) (w0 w : World) (hr : Rel w0 w) (ho : OffArg w A c os) (ov : Value) (hov : Hid (Value.slice A os.length c = ov)) :
    Calls Tryd.prog 16 #[ov] w fun z w' => z = .returned (.bool b) ∧ Rel w0 w' := by
  rw [← hov.out, ← hv.out]; exact H.1 A c os w0 w hr ho
def ofAB : List Of := [([97], 700), ([98], 500)]
def ofA0 : List Of := [([97], 0)]
theorem ab_ok : offsOk ofAB = true := by decide
theorem a0_no : offsOk ofA0 = false := by decide
theorem aw_eval1 : evalS [] exX = .ok (some 999) := by
  rw [eval_yes offsOk_nil exX_right]
  unfold exX
  rw [told_else, told_less5, told_one _ _ _ rfl, told_fix _ _ _ rfl]
  rfl
theorem aw_eval2 : evalS ofAB exX = .ok (some 499) := by
  rw [eval_yes ab_ok exX_right]
  unfold exX
  rw [told_else, told_less5, told_one _ _ _ rfl, show rk ofAB 0 = some 500 from by decide]
  simp only
  rw [sub_price (by omega) (by omega) (by omega) (by omega)]
  rfl
theorem aw_eval3 : evalS [] exLow = .ok none := eval_low offsOk_nil
theorem aw_cond : condS ofAB (.mk 11 1 [] []) = .ok true := by
  have := cond_ok (l := ofAB) (n := 1) ab_ok (by omega) (by omega)
  unfold more at this
  rw [this]; rfl
theorem fit_small {os : List Of} (h : ∀ o ∈ os, o.1.length ≤ 100 ∧ 0 ≤ o.2 ∧ o.2 ≤ 1000) : OffsFit os := fun o ho => by
  have := h o ho
  exact ⟨by omega, by omega, by omega⟩
theorem ab_fit : OffsFit ofAB := fit_small (by decide)
theorem a0_fit : OffsFit ofA0 := fit_small (by decide)
/-- Offers in a block that was just made. -/
theorem new_arg (w : World) (os : List Of) (c : Nat) (hc : os.length ≤ c) (hm : c ≤ maxLen) (hf : OffsFit os) (cs : Array Value) (hcs : (cellsO os).toArray = cs) : OffArg (w.alloc (.cells cs 37)) (some ⟨w.heap.size, 0, none⟩) c os := by
  subst hcs
  exact ⟨hc, hm, hf, OffsAt.of_bk (Bk.new w _ _)⟩
set_option maxRecDepth 100000 in
set_option maxHeartbeats 8000000 in
theorem awake9_any (H : ValueOk) (w0 w : World) (hr : Rel w0 w) :
    Calls Tryd.prog 8 #[] w fun e w' => e = .returned (.bool true) ∧ Rel w0 w' := by
  have H := Lib.hid H
  have HR := Lib.hid hr
  obtain ⟨W, hW, hb0, hb3, hx, hlow⟩ := awake_world w
  have hA : Rel w W := by rw [hW]; exact (((hr.self.alloc _).alloc _).alloc _).alloc _
  have HA := Lib.hid hA
  have HB0 := Lib.hid hb0
  have HB3 := Lib.hid hb3
  have HX := Lib.hid hx
  have HL := Lib.hid hlow
  obtain ⟨⟨c0, c1, c2, c3⟩, _⟩ := hb3.four
  have Z1 : size exX ≤ 90000 := by rw [exX_size]; omega
  have Z2 : size exLow ≤ 90000 := by unfold exLow; rw [size_mk, sizes_nil]; omega
  have Z3 : size (.mk 11 1 [] []) ≤ 90000 := by rw [size_mk, sizes_nil]; omega
  have Q1 : Hid (RV (evalS [] exX) = .tuple #[.int .i64 999, .bool true, .int .i64 0]) := Lib.hid (by rw [aw_eval1]; rfl)
  have Q2 : Hid (RV (evalS ofAB exX) = .tuple #[.int .i64 499, .bool true, .int .i64 0]) := Lib.hid (by rw [aw_eval2]; rfl)
  have Q3 : Hid (RV (evalS [] exLow) = .tuple #[.int .i64 0, .bool false, .int .i64 0]) := Lib.hid (by rw [aw_eval3]; rfl)
  have Q4 : Hid (CV (condS ofAB (.mk 11 1 [] [])) = .tuple #[.bool true, .int .i64 0]) := Lib.hid (by rw [aw_cond]; rfl)
  have Q5 : Hid (offsOk ofA0 = false) := Lib.hid a0_no
  have V9 : Hid (EV (9, 0, [], some ⟨w.heap.size + 2, 0, none⟩, 2, 2) = .agg #[.int .i64 9, .int .i64 0, .string ⟨#[]⟩, .slice (some ⟨w.heap.size + 2, 0, none⟩) 2 2]) := Lib.hid rfl
  have V1 : Hid (EV (1, 0, [], none, 0, 0) = .agg #[.int .i64 1, .int .i64 0, .string ⟨#[]⟩, .slice none 0 0]) := Lib.hid rfl
  have V11 : Hid (EV (11, 1, [], none, 0, 0) = .agg #[.int .i64 11, .int .i64 1, .string ⟨#[]⟩, .slice none 0 0]) := Lib.hid rfl
  have O0 : Hid (Value.slice none ([] : List Of).length 0 = .slice none 0 0) := Lib.hid rfl
  have NA : Hid (∀ w1 : World, OffArg (w1.alloc (.cells #[.string ⟨#[97]⟩, .int .i64 700, .string ⟨#[98]⟩, .int .i64 500] 37)) (some ⟨w1.heap.size, 0, none⟩) 2 ofAB) := Lib.hid (fun w1 => new_arg w1 ofAB 2 (by decide) (by decide) ab_fit _ rfl)
  have N0 : Hid (∀ w1 : World, OffArg (w1.alloc (.cells #[.string ⟨#[97]⟩, .int .i64 0] 37)) (some ⟨w1.heap.size, 0, none⟩) 1 ofA0) := Lib.hid (fun w1 => new_arg w1 ofA0 1 (by decide) (by decide) a0_fit _ rfl)
  have OA : Hid (∀ g : Nat, Value.slice (some ⟨g, 0, none⟩) ofAB.length 2 = .slice (some ⟨g, 0, none⟩) 2 2) := Lib.hid (fun _ => rfl)
  have O1 : Hid (∀ g : Nat, Value.slice (some ⟨g, 0, none⟩) ofA0.length 1 = .slice (some ⟨g, 0, none⟩) 1 1) := Lib.hid (fun _ => rfl)
  have LF : Hid (∀ w1 : World, ExAt (fun _ => True) w1 (11, 1, [], none, 0, 0) (.mk 11 1 [] [])) := Lib.hid (fun w1 => ExAt.leaf _ _ 11 1 [] none 0 ⟨by decide, by decide⟩ ⟨by decide, by decide⟩ (Nat.zero_le _))
  have HW := Lib.hid hW
  clear hW hA hb0 hb3 hx hlow
  go_enter Tryd.func8, Tryd.ntmps8
  go_upto_region 3 with (fail)
  simp only [Nat.add_assoc, Nat.reduceAdd]
  rw [← HW.out]
  have HRW := Lib.hid (HR.out.trans HA.out)
  go_wp2_with (first
    | (go_at_call 11; (with_reducible refine (eval_as H.out exX [] 999 true 0 Q1 (fun _ => True) (9, 0, [], some ⟨w.heap.size + 2, 0, none⟩, 2, 2) none 0 _ _ HRW.out.self HX.out Z1 (offArg_nil _) _ _ V9 O0).mono ?_); rintro e w1 ⟨rfl, h1⟩; have R1 := Lib.hid h1; obtain ⟨⟨d0, d1, d2, d3⟩, _⟩ := (HB3.out.rel h1).four)
    | (go_at_call 11; (with_reducible refine (eval_as H.out exX ofAB 499 true 0 Q2 (fun _ => True) (9, 0, [], some ⟨w.heap.size + 2, 0, none⟩, 2, 2) (some ⟨w1.heap.size, 0, none⟩) 2 _ _ (R1.out.self.alloc _).self (HX.out.rel (R1.out.alloc _)) Z1 (NA.out w1) _ _ V9 (Lib.hid (OA.out _))).mono ?_); rintro e w2 ⟨rfl, h2⟩; have R2 := Lib.hid ((R1.out.alloc _).trans h2); obtain ⟨⟨e0, e1, e2, e3⟩, _⟩ := (HB0.out.rel R2.out).four)
    | (go_at_call 11; (with_reducible refine (eval_as H.out exLow [] 0 false 0 Q3 (fun _ => True) (1, 0, [], none, 0, 0) none 0 _ _ R2.out.self (HL.out.rel R2.out) Z2 (offArg_nil _) _ _ V1 O0).mono ?_); rintro e w3 ⟨rfl, h3⟩; have R3 := Lib.hid (R2.out.trans h3))
    | (go_at_call 15; (with_reducible refine (cond9_as H.out (.mk 11 1 [] []) ofAB true 0 Q4 (fun _ => True) (11, 1, [], none, 0, 0) (some ⟨w3.heap.size, 0, none⟩) 2 _ _ (R3.out.self.alloc _).self (LF.out _) Z3 (NA.out w3) _ _ V11 (Lib.hid (OA.out _))).mono ?_); rintro e w4 ⟨rfl, h4⟩; have R4 := Lib.hid ((R3.out.alloc _).trans h4))
    | (go_at_call 16; (with_reducible refine (vright_as H.out ofA0 false Q5 (some ⟨w4.heap.size, 0, none⟩) 1 _ _ (R4.out.self.alloc _).self (N0.out w4) _ (Lib.hid (O1.out _))).mono ?_); rintro e w5 ⟨rfl, h5⟩; have R5 := Lib.hid ((R4.out.alloc _).trans h5)))
  go_ret
  exact ⟨rfl, HRW.out.trans R5.out⟩
end Go.Proofs.YtpehlldgnbajjaaDoor
