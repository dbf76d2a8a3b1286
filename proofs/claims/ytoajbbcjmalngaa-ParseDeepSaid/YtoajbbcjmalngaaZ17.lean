/- The landed parser: any piece of a call, taken. -/
import Derived.Test.YtoajbbcjmalngaaZ16
namespace Go.Proofs.Ytoajbbcjmalngaa
open Go.RowKit Go.Lib
set_option linter.unusedVariables false
set_option linter.unusedSimpArgs false

def fnOf : Pc → FuncId
  | .ar => 52
  | .wh => 55
  | .na => 51
  | .am => 53
  | .pa => 54
  | .co => 79
/-- A piece as a value: a method bound to the parser. -/
def pvOf (g : Nat) (p : Pc) : Value := .func (.func (fnOf p)) #[.pointer (some ⟨g, 0, none⟩)] #[]
theorem piece_any (d : Nat) (E : ExprOk d) (V U : World) (g gx a : Nat) (had : a + d = 32) (p : Pc) (x : Ex) (ts : List Tok) (hx : x.l.length ≤ 2) (w : World) (h : InP V U w g gx a x ts) :
    Calls Try.prog (fnOf p) #[.pointer (some ⟨g, 0, none⟩), .pointer (some ⟨gx, 0, none⟩)] w (PcPost V U g gx a (stepP (exprT d) p x ts)) := by
  cases p with
  | ar =>
    cases hr : exprT d false ts with
    | error e0 => exact parg_no d E V U g gx a had x ts hx e0 hr w h
    | ok q => obtain ⟨y, r⟩ := q; exact parg_yes d E V U g gx a had x ts hx y r hr w h
  | wh =>
    cases hr : exprT d true ts with
    | error e0 => exact pwhen_no d E V U g gx a had x ts hx e0 hr w h
    | ok q => obtain ⟨y, r⟩ := q; exact pwhen_yes d E V U g gx a had x ts hx y r hr w h
  | na => exact pname_any V U g gx a x ts (exprT d) w h
  | am => exact pamount_any V U g gx a x ts (exprT d) w h
  | pa => exact ppart_any V U g gx a x ts (exprT d) w h
  | co => exact pcount_any V U g gx a x ts (exprT d) w h
theorem piece_yes {d : Nat} (E : ExprOk d) {V U : World} {g gx a : Nat} (had : a + d = 32) (p : Pc) {x y : Ex} {ts r : List Tok} (hx : x.l.length ≤ 2) (hr : stepP (exprT d) p x ts = .ok (y, r)) {w : World} (h : InP V U w g gx a x ts) :
    Calls Try.prog (fnOf p) #[.pointer (some ⟨g, 0, none⟩), .pointer (some ⟨gx, 0, none⟩)] w fun e w' => e = .returned (.tuple #[]) ∧ InP V U w' g gx a y r := by
  have := piece_any d E V U g gx a had p x ts hx w h
  rw [hr] at this
  exact this
theorem piece_no {d : Nat} (E : ExprOk d) {V U : World} {g gx a : Nat} (had : a + d = 32) (p : Pc) {x : Ex} {ts : List Tok} (hx : x.l.length ≤ 2) {e0 : Int × Int} (hr : stepP (exprT d) p x ts = .error e0) {w : World} (h : InP V U w g gx a x ts) :
    Calls Try.prog (fnOf p) #[.pointer (some ⟨g, 0, none⟩), .pointer (some ⟨gx, 0, none⟩)] w fun e w' => e = FLT e0.1 e0.2 ∧ U.grownBy w' (some g) := by
  have := piece_any d E V U g gx a had p x ts hx w h
  rw [hr] at this
  exact this
theorem step_len {f : Bool → List Tok → Told Ex} {p : Pc} {x y : Ex} {ts r : List Tok} (h : stepP f p x ts = .ok (y, r)) : y.l.length ≤ x.l.length + 1 := by
  unfold stepP at h
  cases p <;> simp only at h <;> split at h <;> (try cases h) <;> simp [Ex.push, Ex.num, Ex.name, Ex.l]
/-- What was built is the expression. -/
theorem XP.done {gx : Nat} {w : World} {x : Ex} {A : Option Addr} {c : Nat} {es : List El} (h : XP gx w x A c es) (W : World) (hs : w.heap.size ≤ W.heap.size) (hW : ∀ q, gx < q → q < w.heap.size → W.heap[q]? = w.heap[q]?) (S : Nat → Prop) (hS : ∀ q, gx < q → S q) : ExAt S W (x.k, x.n, x.nm, A, es.length, c) x := by
  obtain ⟨h1, h2, h3, h4, h5, h6, h7, h8⟩ := h
  obtain ⟨k, n, nm, l⟩ := x
  have h3 : es.length = l.length := h3
  have hrow : RowE (fun q => gx < q) w A es := ElsOwn.toks (base := gx + 1) (n := es.length) (c := c) (by unfold ElsOwn; exact h2) rfl (fun q hq => by have := (h2.lt q hq).1; omega)
  have hx : ExAt S W (k, n, nm, A, l.length, c) (.mk k n nm l) := .mk k n nm A c l es h5 h6 h7 h3 (hrow.mono hs fun q hq hl => ⟨hS q hq, hW q hq hl⟩) (fun i hi hi' => (h4 i hi hi').mono hs fun q hq hl => ⟨hS q hq.1, hW q hq.1 hl⟩)
  rw [h3]
  exact hx
def btwP (j : Nat) : UInt8 := if j = 0 then 40 else 44
theorem btwP_or (j : Nat) : btwP j = 40 ∨ btwP j = 41 ∨ btwP j = 44 := by unfold btwP; split <;> simp
end Go.Proofs.Ytoajbbcjmalngaa
