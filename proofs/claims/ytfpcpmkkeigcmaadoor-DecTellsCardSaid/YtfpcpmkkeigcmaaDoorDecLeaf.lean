/- The small contracts of layer 2: raw numbers, amounts that may be, numbers' texts (the program's and the document's own). -/
import Derived.Test.YtfpcpmkkeigcmaaDoorRows
import Derived.Test.YtfpcpmkkeigcmaaDoorDecMathB
import Derived.Test.YtfpcpmkkeigcmaaDoorShelf
import Derived.WalkKit
import Derived.WalkSpells
import Derived.WalkLawsBesides
import Derived.BigQuiet
import Derived.Deep.QuietTactic
import Derived.Lib.Hide
import Derived.Lib.SmallJoins
import Derived.Below
namespace Go.Proofs.YtfpcpmkkeigcmaaDoor
open Go.RowKit Go.Lib
set_option linter.unusedVariables false
set_option linter.unusedSimpArgs false

def B (l : List UInt8) : ByteArray := ⟨l.toArray⟩
theorem B_list (l : List UInt8) : (B l).data.toList = l := by simp [B]
theorem B_toList (l : List UInt8) : (B l).toList = l := ByteArray.toList_mk l
theorem B_of (s : ByteArray) : B s.data.toList = s := by simp [B]
theorem B_append (a b : List UInt8) : B a ++ B b = B (a ++ b) := ByteArray.mk_append_mk a b
theorem B_size (l : List UInt8) : (B l).size = l.length := by simp [B, ByteArray.size]
def wit (a l h : Int) : Bool := decide (l ≤ a ∧ a ≤ h)
def pk (c n : Int) : Int := if c < 0 then -((c + 1).tmod n) else c % n
def Two (e : Ending) (x y : Int) : Prop := e = .returned (.tuple #[.int .i64 x, .int .i64 y])
def Tab (w : World) : Prop := Lib.TabIs Tryd.prog w "internal/strconv.uint64pow10" .u64 Lib.pow10Tab
theorem gTab : Tryd.prog.globalNamed "internal/strconv.uint64pow10" = some 1 := by kernel_rfl
def Rel (w0 w : World) : Prop := Tab w0 ∧ Below w0.heap.size w0 w
theorem Rel.tab {w0 w : World} (h : Rel w0 w) : Tab w := Joins.tab_stays gTab h.1 h.2 (Nat.le_refl _)
theorem Rel.start {w : World} (h : Tab w) : Rel w w := ⟨h, Below.refl _ _⟩
theorem Rel.step {w0 w w' : World} (h : Rel w0 w) (hb : Below w.heap.size w w') : Rel w0 w' := ⟨h.1, h.2.trans (hb.mono h.2.size)⟩
theorem Rel.alloc {w0 w : World} (h : Rel w0 w) (o : Obj) : Rel w0 (w.alloc o) := ⟨h.1, h.2.alloc h.2.size o⟩
theorem Rel.drew {w0 w : World} (h : Rel w0 w) : Rel w0 w.drew := ⟨h.1, h.2.drew⟩
theorem Rel.drewN {w0 w : World} (h : Rel w0 w) (n : Nat) : Rel w0 (w.drewN n) := ⟨h.1, ⟨h.2.os, h.2.tape, h.2.output, h.2.size, h.2.block⟩⟩
theorem Rel.setCell {w0 w : World} (h : Rel w0 w) {p : Addr} (hp : w0.heap.size ≤ p.block) (u : Value) : Rel w0 (w.setCell p u) := ⟨h.1, h.2.setCell hp u⟩
theorem Rel.grow {w0 w : World} (h : Rel w0 w) (os : Array Obj) : Rel w0 (Sort.grow w os) := by
  refine h.step ⟨rfl, rfl, rfl, ?_, fun k hk => ?_⟩
  · show w.heap.size ≤ (w.heap ++ os).size
    rw [Array.size_append]; omega
  · show (w.heap ++ os)[k]? = w.heap[k]?
    rw [Array.getElem?_append_left hk]

theorem ret_int {k : IntKind} {a b : Int} (h : a = b) : Ending.returned (.int k a) = .returned (.int k b) := by rw [h]
theorem ret_bool {a b : Bool} (h : a = b) : Ending.returned (.bool a) = .returned (.bool b) := by rw [h]
theorem ret_str {a b : ByteArray} (h : a = b) : Ending.returned (.string a) = .returned (.string b) := by rw [h]
theorem ret_two {a b c d : Int} (h : a = c) (h' : b = d) : Two (Ending.returned (.tuple #[.int .i64 a, .int .i64 b])) c d := by subst h; subst h'; rfl
theorem int_at {f : FuncId} {args : Array Value} {w : World} {R : World → Prop} {x : Int} (y : Int) (c : Calls Tryd.prog f args w fun e w' => e = .returned (.int .i64 x) ∧ R w') (h : Hid (x = y)) : Calls Tryd.prog f args w fun e w' => e = .returned (.int .i64 y) ∧ R w' := by
  have e := h.out; subst e; exact c
theorem str_at {f : FuncId} {args : Array Value} {w : World} {R : World → Prop} {x : ByteArray} (y : ByteArray) (c : Calls Tryd.prog f args w fun e w' => e = .returned (.string x) ∧ R w') (h : Hid (x = y)) : Calls Tryd.prog f args w fun e w' => e = .returned (.string y) ∧ R w' := by
  have e := h.out; subst e; exact c
theorem two_at {f : FuncId} {args : Array Value} {w : World} {R : World → Prop} {x y : Int} (x' y' : Int) (c : Calls Tryd.prog f args w fun e w' => Two e x y ∧ R w') (h : Hid (x = x')) (h' : Hid (y = y')) : Calls Tryd.prog f args w fun e w' => e = .returned (.tuple #[.int .i64 x', .int .i64 y']) ∧ R w' := by
  have e := h.out; have e' := h'.out; subst e; subst e'; exact c
theorem tdt (p n : Int) (hn : 0 < n) : n * p.tdiv n + p.tmod n = p ∧ (0 ≤ p → 0 ≤ p.tmod n) ∧ (p ≤ 0 → p.tmod n ≤ 0) ∧ p.tmod n < n ∧ -n < p.tmod n := by
  refine ⟨Int.mul_tdiv_add_tmod p n, fun h => Int.tmod_nonneg n h, fun h => ?_, Int.tmod_lt_of_pos p hn, ?_⟩
  · have := Int.tmod_nonneg n (a := -p) (by omega)
    rw [Int.neg_tmod] at this; omega
  · have := Int.tmod_lt_of_pos (-p) hn
    rw [Int.neg_tmod] at this; omega
theorem pk_bd (c n : Int) (hn : 0 < n) : 0 ≤ pk c n ∧ pk c n < n := by
  unfold pk
  split
  · have := tdt (c + 1) n hn; omega
  · exact ⟨Int.emod_nonneg c (by omega), Int.emod_lt_of_pos c hn⟩

set_option maxHeartbeats 400000 in
theorem lpick_any (c n : Int) (hc : -9223372036854775808 ≤ c) (hc' : c ≤ 9223372036854775807) (hn : 0 < n) (hn' : n ≤ 9223372036854775807) (w : World) :
    Calls Tryd.prog 20 #[.int .i64 c, .int .i64 n] w fun e w' => e = .returned (.int .i64 (pk c n)) ∧ w = w' := by
  by_cases h : c < 0
  all_goals
    go_enter Tryd.func20, Tryd.ntmps20
    go_wp2
    all_goals
      go_ret
      exact ⟨ret_int (by unfold pk; split <;> first | rfl | omega), rfl⟩
set_option maxHeartbeats 400000 in
theorem pick_any (c n : Int) (hc : -9223372036854775808 ≤ c) (hc' : c ≤ 9223372036854775807) (hn : 0 < n) (hn' : n ≤ 9223372036854775807) (w : World) :
    Calls Tryd.prog 11 #[.int .i64 c, .int .i64 n] w fun e w' => e = .returned (.int .i64 (pk c n)) ∧ w = w' := by
  by_cases h : c < 0
  all_goals
    go_enter Tryd.func11, Tryd.ntmps11
    go_wp2
    all_goals
      go_ret
      exact ⟨ret_int (by unfold pk; split <;> first | rfl | omega), rfl⟩
def amt (c : Int) : Int := pk c 2000000000001 - 1000000000000
theorem amt_bd (c : Int) : -1000000000000 ≤ amt c ∧ amt c ≤ 1000000000000 := by
  have := pk_bd c 2000000000001 (by omega); unfold amt; omega
set_option maxHeartbeats 400000 in
theorem amount_any (c : Int) (hc : -9223372036854775808 ≤ c) (hc' : c ≤ 9223372036854775807) (w : World) :
    Calls Tryd.prog 10 #[.int .i64 c] w fun e w' => e = .returned (.int .i64 (amt c)) ∧ w = w' := by
  have h0 := pk_bd c 2000000000001 (by omega)
  obtain ⟨h1, h2⟩ := h0
  go_enter Tryd.func10, Tryd.ntmps10
  go_wp2_with ((go_at_call 20; refine (lpick_any _ _ hc hc' (by omega) (by omega) _).mono ?_; rintro e w' ⟨rfl, rfl⟩))
  go_ret
  exact ⟨ret_int (by unfold amt; omega), rfl⟩
set_option maxHeartbeats 400000 in
theorem within_any (a l h : Int) (w : World) :
    Calls Tryd.prog 28 #[.int .i64 a, .int .i64 l, .int .i64 h] w fun e w' => e = .returned (.bool (wit a l h)) ∧ w = w' := by
  by_cases h1 : l ≤ a <;> by_cases h2 : a ≤ h
  all_goals
    go_enter Tryd.func28, Tryd.ntmps28
    go_wp2
    all_goals
      go_ret
      exact ⟨ret_bool (by unfold wit; rw [eq_comm]; first | exact decide_eq_true (by omega) | exact decide_eq_false (by omega)), rfl⟩
set_option maxHeartbeats 400000 in
theorem right_any (a : Int) (w : World) :
    Calls Tryd.prog 21 #[.int .i64 a] w fun e w' => e = .returned (.bool (rt a)) ∧ w = w' := by
  by_cases h1 : -1000000000000 ≤ a <;> by_cases h2 : a ≤ 1000000000000
  all_goals
    go_enter Tryd.func21, Tryd.ntmps21
    go_wp2
    all_goals
      go_ret
      exact ⟨ret_bool (by unfold rt; rw [eq_comm]; first | exact decide_eq_true (by omega) | exact decide_eq_false (by omega)), rfl⟩
def num (n : Int) : ByteArray := B (itoa n)
theorem num_any (n : Int) (h0 : -9223372036854775808 ≤ n) (h1 : n ≤ 9223372036854775807) (w0 w : World) (hr : Rel w0 w) :
    Calls Tryd.prog 14 #[.int .i64 n] w fun e w' => e = .returned (.string (num n)) ∧ Rel w0 w' := by
  go_enter Tryd.func14, Tryd.ntmps14
  go_wp2_with ((go_at_call 23; refine (Tryd.strconv_Itoa _ h0 h1 _ hr.tab).mono ?_; rintro e w' ⟨rfl, k, os, rfl⟩))
  go_ret
  exact ⟨rfl, (hr.drewN k).grow os⟩
end Go.Proofs.YtfpcpmkkeigcmaaDoor
