/- The law's own records, made of raw numbers and texts. -/
import Derived.Test.YtjbbfcomgglhiaaDoorRecOwn
import Derived.Deep.RegionHeld3
import Derived.Deep.DeepCutAuto
import Derived.Deep.Cut
namespace Go.Proofs.YtjbbfcomgglhiaaDoor
open Go.RowKit Go.Lib
set_option linter.unusedVariables false
set_option linter.unusedSimpArgs false

def RowsAt (w : World) (A : Option Addr) (zss : List (List Int)) : Prop :=
  ∀ i (h : i < zss.length), ∃ (a : Addr) (A' : Option Addr) (c : Nat), A = some a ∧ a.block < w.heap.size ∧ w.cell? (a.add i) = some (.slice A' zss[i].length c) ∧ IntsAt w A' zss[i]
def StrsAt (w : World) (A : Option Addr) (ss : List ByteArray) : Prop := ∀ i (h : i < ss.length), ∃ a, A = some a ∧ a.block < w.heap.size ∧ w.cell? (a.add i) = some (.string ss[i])
theorem RowsAt.rel {w w' : World} {A : Option Addr} {zss : List (List Int)} (h : RowsAt w A zss) (hr : Rel w w') : RowsAt w' A zss := by
  intro i hi
  obtain ⟨a, A', c, e, hl, h0, h1⟩ := h i hi
  exact ⟨a, A', c, e, by have := hr.size; omega, (hr.2.cell (p := a.add i) (by rw [block_add]; exact hl)).trans h0, h1.rel hr⟩
theorem StrsAt.rel {w w' : World} {A : Option Addr} {ss : List ByteArray} (h : StrsAt w A ss) (hr : Rel w w') : StrsAt w' A ss := by
  intro i hi
  obtain ⟨a, e, hl, h0⟩ := h i hi
  exact ⟨a, e, by have := hr.size; omega, (hr.2.cell (p := a.add i) (by rw [block_add]; exact hl)).trans h0⟩
def numOf (z : Int) : Int := pk z 2251799813685249 - 1125899906842624
theorem numOf_bd (z : Int) : -1125899906842624 ≤ numOf z ∧ numOf z ≤ 1125899906842624 := by
  have := pk_bd z 2251799813685249 (by omega)
  unfold numOf; omega
/-- The kind and the numbers of the first k raw numbers. -/
def kindOf (zs : List Int) : Int := match zs with
  | [] => 1
  | z :: _ => (1 : Int) + pk z 255
def numsOf (zs : List Int) : List Int := (zs.drop 1).map numOf
def cut200 (t : ByteArray) : ByteArray := if (t.size : Int) ≤ 200 then t else t.extract 0 200
def textOf (ss : List ByteArray) (i : Nat) : ByteArray := if h : 0 < ss.length then cut200 (ss[i % ss.length]'(Nat.mod_lt _ h)) else ⟨#[]⟩
def rawRec (ss : List ByteArray) (zs : List Int) (i : Nat) : Int × List Int × ByteArray := (kindOf (zs.take 21), numsOf (zs.take 21), textOf ss i)
/-- The records of raw numbers, from the i-th on. -/
def rawRecs (ss : List ByteArray) : List (List Int) → Nat → List (Int × List Int × ByteArray)
  | [], _ => []
  | zs :: t, i => rawRec ss zs i :: rawRecs ss t (i + 1)
theorem rawRecs_len (ss : List ByteArray) (l : List (List Int)) (i : Nat) : (rawRecs ss l i).length = l.length := by
  induction l generalizing i with
  | nil => rfl
  | cons zs t ih => simp only [rawRecs, List.length_cons, ih]
theorem rawRecs_snoc (ss : List ByteArray) (l : List (List Int)) (i : Nat) (zs : List Int) : rawRecs ss (l ++ [zs]) i = rawRecs ss l i ++ [rawRec ss zs (i + l.length)] := by
  induction l generalizing i with
  | nil => rfl
  | cons y t ih =>
    simp only [List.cons_append, rawRecs, ih, List.length_cons]
    rw [show i + 1 + t.length = i + (t.length + 1) by omega]
theorem rawRecs_take (ss : List ByteArray) (l : List (List Int)) (j : Nat) (h : j < l.length) : rawRecs ss (l.take (j + 1)) 0 = rawRecs ss (l.take j) 0 ++ [rawRec ss l[j] j] := by
  rw [List.take_succ_eq_append_getElem h, rawRecs_snoc, List.length_take]
  simp [Nat.min_eq_left (Nat.le_of_lt h)]
theorem cut200_le (t : ByteArray) : (cut200 t).size ≤ 200 := by
  unfold cut200
  split
  · omega
  · rw [ByteArray.size_extract]; omega
theorem textOf_le (ss : List ByteArray) (i : Nat) : (textOf ss i).size ≤ 200 := by
  unfold textOf
  split
  · exact cut200_le _
  · exact Nat.zero_le _
theorem rawRec_right (ss : List ByteArray) (zs : List Int) (i : Nat) : frRight (pure3 (rawRec ss zs i)) := by
  have hk : 1 ≤ kindOf (zs.take 21) ∧ kindOf (zs.take 21) ≤ 255 := by
    unfold kindOf
    split
    · omega
    · rename_i z _ _
      have := pk_bd z 255 (by omega)
      omega
  have ht := textOf_le ss i
  have hl : (textOf ss i).data.toList.length = (textOf ss i).size := by simp
  refine ⟨hk.1, hk.2, ?_, ?_, ?_⟩
  · show (numsOf (zs.take 21)).length ≤ 20
    unfold numsOf
    rw [List.length_map, List.length_drop, List.length_take]; omega
  · intro n hn
    have hn' : n ∈ numsOf (zs.take 21) := hn
    unfold numsOf at hn'
    obtain ⟨z, _, rfl⟩ := List.mem_map.1 hn'
    exact numOf_bd z
  · show (textOf ss i).data.toList.length ≤ 2000
    omega
theorem rawRecs_right (ss : List ByteArray) (l : List (List Int)) (i : Nat) : ∀ r ∈ rawRecs ss l i, frRight (pure3 r) := by
  induction l generalizing i with
  | nil => intro r h; cases h
  | cons zs t ih =>
    intro r h
    rcases List.mem_cons.1 h with rfl | h
    · exact rawRec_right ss zs i
    · exact ih (i + 1) r h
/-- The records that the law makes. -/
def recsOf (zss : List (List Int)) (ss : List ByteArray) : List (Int × List Int × ByteArray) := rawRecs ss (zss.take 12) 0
theorem kind_first (zs : List Int) (h : 0 < zs.length) : kindOf (zs.take 1) = (1 : Int) + pk (zs[0]) 255 := by
  cases zs with
  | nil => simp at h
  | cons z t => rfl
theorem kind_more (zs : List Int) (k : Nat) (h : 1 ≤ k) : kindOf (zs.take (k + 1)) = kindOf (zs.take k) := by
  cases zs with
  | nil => simp
  | cons z t =>
    cases k with
    | zero => omega
    | succ k => rfl
theorem nums_first (zs : List Int) : numsOf (zs.take 1) = [] := by
  cases zs <;> rfl
theorem nums_more (zs : List Int) (k : Nat) (h : 1 ≤ k) (hk : k < zs.length) : numsOf (zs.take (k + 1)) = numsOf (zs.take k) ++ [numOf zs[k]] := by
  unfold numsOf
  rw [List.take_succ_eq_append_getElem hk, List.drop_append_of_le_length (by rw [List.length_take]; omega), List.map_append]
  rfl
end Go.Proofs.YtjbbfcomgglhiaaDoor
