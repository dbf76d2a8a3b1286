/- The base of layer 4: texts as lists, the relation of worlds, numbers' texts (the program's and the document's own), sums and their bytes. -/
import Derived.Test.YtjbbfcomgglhiaaDoorProg
import Derived.Test.YtjbbfcomgglhiaaDoorDecMath
import Derived.Test.YtjbbfcomgglhiaaDoorSumMath
import Derived.WalkKit
import Derived.WalkSpells
import Derived.WalkLawsBesides
import Derived.BigQuiet
import Derived.Deep.QuietTactic
import Derived.Lib.Hide
import Derived.Lib.SmallJoins
import Derived.Below
import Derived.Laws.IdiomStrings
namespace Go.Proofs.YtjbbfcomgglhiaaDoor
open Go.RowKit Go.Lib
set_option linter.unusedVariables false
set_option linter.unusedSimpArgs false

def B (l : List UInt8) : ByteArray := ⟨l.toArray⟩
theorem B_list (l : List UInt8) : (B l).data.toList = l := by simp [B]
theorem B_toList (l : List UInt8) : (B l).toList = l := ByteArray.toList_mk l
theorem B_of (s : ByteArray) : B s.data.toList = s := by simp [B]
theorem B_append (a b : List UInt8) : B a ++ B b = B (a ++ b) := ByteArray.mk_append_mk a b
theorem B_size (l : List UInt8) : (B l).size = l.length := by simp [B, ByteArray.size]
def pk (c n : Int) : Int := if c < 0 then -((c + 1).tmod n) else c % n
def Two (e : Ending) (x y : Int) : Prop := e = .returned (.tuple #[.int .i64 x, .int .i64 y])
/-- A variable that holds an error, or none. -/
theorem blk_of_cell {w : World} {a : Addr} {v : Value} (h : w.cell? a = some v) : a.block < w.heap.size := by
  rcases Nat.lt_or_ge a.block w.heap.size with hn | hn
  · exact hn
  · simp [World.cell?, Array.getElem?_eq_none hn] at h
def ErrCell (w : World) (g : Nat) : Prop := ∃ ev, w.cell? ⟨g, 0, none⟩ = some ev ∧ (ev = .nilIface ∨ ∃ te pe, ev = .iface te pe)
theorem ErrCell.below {w0 w : World} {g : Nat} (h : ErrCell w0 g) (hb : Below w0.heap.size w0 w) : ErrCell w g := by
  obtain ⟨ev, h1, h2⟩ := h
  exact ⟨ev, (hb.cell (p := ⟨g, 0, none⟩) (blk_of_cell h1)).trans h1, h2⟩
def Tab (w : World) : Prop := Lib.TabIs Tryd.prog w "internal/strconv.uint64pow10" .u64 Lib.pow10Tab ∧ ErrCell w 2 ∧ ErrCell w 3
theorem gTab : Tryd.prog.globalNamed "internal/strconv.uint64pow10" = some 0 := by kernel_rfl
def Rel (w0 w : World) : Prop := Tab w0 ∧ Below w0.heap.size w0 w
theorem Rel.tab {w0 w : World} (h : Rel w0 w) : Tab w := ⟨Joins.tab_stays gTab h.1.1 h.2 (Nat.le_refl _), h.1.2.1.below h.2, h.1.2.2.below h.2⟩
theorem Rel.start {w : World} (h : Tab w) : Rel w w := ⟨h, Below.refl _ _⟩
theorem Rel.step {w0 w w' : World} (h : Rel w0 w) (hb : Below w.heap.size w w') : Rel w0 w' := ⟨h.1, h.2.trans (hb.mono h.2.size)⟩
theorem Rel.alloc {w0 w : World} (h : Rel w0 w) (o : Obj) : Rel w0 (w.alloc o) := ⟨h.1, h.2.alloc h.2.size o⟩
theorem Rel.drew {w0 w : World} (h : Rel w0 w) : Rel w0 w.drew := ⟨h.1, h.2.drew⟩
theorem Rel.drewN {w0 w : World} (h : Rel w0 w) (n : Nat) : Rel w0 (w.drewN n) := ⟨h.1, ⟨h.2.os, h.2.tape, h.2.output, h.2.size, h.2.block⟩⟩
theorem Rel.setCell {w0 w : World} (h : Rel w0 w) {p : Addr} (hp : w0.heap.size ≤ p.block) (u : Value) : Rel w0 (w.setCell p u) := ⟨h.1, h.2.setCell hp u⟩
theorem Rel.grow {w0 w : World} (h : Rel w0 w) (os : Array Obj) : Rel w0 (Sort.grow w os) := by
  refine h.step ⟨rfl, rfl, rfl, ?_, fun k hk => ?_⟩
  · show w.heap.size ≤ (w.heap ++ os).size
    rw [Array.size_append]; omega
  · show (w.heap ++ os)[k]? = w.heap[k]?
    rw [Array.getElem?_append_left hk]

theorem ret_int {k : IntKind} {a b : Int} (h : a = b) : Ending.returned (.int k a) = .returned (.int k b) := by rw [h]
theorem ret_bool {a b : Bool} (h : a = b) : Ending.returned (.bool a) = .returned (.bool b) := by rw [h]
theorem ret_str {a b : ByteArray} (h : a = b) : Ending.returned (.string a) = .returned (.string b) := by rw [h]
theorem ret_two {a b c d : Int} (h : a = c) (h' : b = d) : Two (Ending.returned (.tuple #[.int .i64 a, .int .i64 b])) c d := by subst h; subst h'; rfl
theorem int_at {f : FuncId} {args : Array Value} {w : World} {R : World → Prop} {x : Int} (y : Int) (c : Calls Tryd.prog f args w fun e w' => e = .returned (.int .i64 x) ∧ R w') (h : Hid (x = y)) : Calls Tryd.prog f args w fun e w' => e = .returned (.int .i64 y) ∧ R w' := by
  have e := h.out; subst e; exact c
theorem str_at {f : FuncId} {args : Array Value} {w : World} {R : World → Prop} {x : ByteArray} (y : ByteArray) (c : Calls Tryd.prog f args w fun e w' => e = .returned (.string x) ∧ R w') (h : Hid (x = y)) : Calls Tryd.prog f args w fun e w' => e = .returned (.string y) ∧ R w' := by
  have e := h.out; subst e; exact c
theorem two_at {f : FuncId} {args : Array Value} {w : World} {R : World → Prop} {x y : Int} (x' y' : Int) (c : Calls Tryd.prog f args w fun e w' => Two e x y ∧ R w') (h : Hid (x = x')) (h' : Hid (y = y')) : Calls Tryd.prog f args w fun e w' => e = .returned (.tuple #[.int .i64 x', .int .i64 y']) ∧ R w' := by
  have e := h.out; have e' := h'.out; subst e; subst e'; exact c
theorem tdt (p n : Int) (hn : 0 < n) : n * p.tdiv n + p.tmod n = p ∧ (0 ≤ p → 0 ≤ p.tmod n) ∧ (p ≤ 0 → p.tmod n ≤ 0) ∧ p.tmod n < n ∧ -n < p.tmod n := by
  refine ⟨Int.mul_tdiv_add_tmod p n, fun h => Int.tmod_nonneg n h, fun h => ?_, Int.tmod_lt_of_pos p hn, ?_⟩
  · have := Int.tmod_nonneg n (a := -p) (by omega)
    rw [Int.neg_tmod] at this; omega
  · have := Int.tmod_lt_of_pos (-p) hn
    rw [Int.neg_tmod] at this; omega
theorem pk_bd (c n : Int) (hn : 0 < n) : 0 ≤ pk c n ∧ pk c n < n := by
  unfold pk
  split
  · have := tdt (c + 1) n hn; omega
  · exact ⟨Int.emod_nonneg c (by omega), Int.emod_lt_of_pos c hn⟩

def num (n : Int) : ByteArray := B (itoa n)
def dgt (d : Int) : UInt8 := UInt8.ofNat (48 + d.toNat)
theorem dd_step {n : Int} (h : 0 ≤ n) (h' : 10 ≤ n) : decDigits n.toNat = decDigits (n / 10).toNat ++ [dgt (n % 10)] := by
  unfold dgt
  rw [decDigits, dif_neg (by omega)]
  congr 2
  · omega
  · congr 2; omega
theorem dd_last {n : Int} (h : 0 ≤ n) (h' : ¬ 10 ≤ n) : decDigits n.toNat = [dgt (n % 10)] := by
  unfold dgt
  rw [decDigits, dif_pos (by omega)]
  congr 2; omega
theorem nd_le (k u : Nat) (h : u < 10 ^ k) (hk : 1 ≤ k) : (decDigits u).length ≤ k := by
  induction k generalizing u with
  | zero => omega
  | succ k ih =>
    rw [decDigits]
    split
    · simp
    · rename_i h10
      have hk' : 1 ≤ k := by
        rcases k with _ | k
        · simp at h; omega
        · omega
      have := ih (u / 10) (by rw [Nat.pow_succ] at h; omega) hk'
      simp
      omega
theorem dd_size (n : Int) (h : n ≤ 9223372036854775807) : (B (decDigits n.toNat)).size ≤ 19 := by
  rw [B_size]
  exact nd_le 19 n.toNat (by have e : 10 ^ 19 = 10000000000000000000 := by decide
                             omega) (by omega)
theorem byte_string (w : World) (d : Int) (h0 : 0 ≤ d) (h1 : d ≤ 9) : (convert 43 9 (.slice (some ⟨w.heap.size, 0, none⟩) 1 1)).run Tryd.prog (w.alloc (.cells #[.int .u8 (48 + d)] 5)) =
    .ok (.string (B [dgt d])) (w.alloc (.cells #[.int .u8 (48 + d)] 5)) := by
  have e : (48 + d : Int) = ((UInt8.ofNat (48 + d.toNat)).toNat : Int) := by rw [of48 (by omega)]; omega
  rw [e]
  exact run_convert_bytes_back (P := Tryd.prog) _ 43 9 5 ⟨w.heap.size, 0, none⟩ 1 [UInt8.ofNat (48 + d.toNat)] Tryd.underlying43 Tryd.underlying5 Tryd.underlying9 (fun j hj => by
    obtain rfl : j = 0 := by simpa using hj
    simp [Addr.add, go_sem])
set_option maxHeartbeats 400000 in
theorem rdig_any (w0 : World) : ∀ (k : Nat) (n : Int), 0 ≤ n → n.toNat ≤ k → n ≤ 9223372036854775807 → ∀ w, Rel w0 w →
    Calls Tryd.prog 39 #[.int .i64 n] w fun e w' => e = .returned (.string (B (decDigits n.toNat))) ∧ Rel w0 w' := by
  intro k
  induction k with
  | zero =>
    intro n h0 hk h1 w hr
    obtain rfl : n = 0 := by omega
    have hconv : ∀ w : World, (convert 43 9 (.slice (some ⟨w.heap.size, 0, none⟩) 1 1)).run Tryd.prog (w.alloc (.cells #[.int .u8 48] 5)) = .ok (.string (B [dgt 0])) (w.alloc (.cells #[.int .u8 48] 5)) := fun w => byte_string w 0 (by omega) (by omega)
    go_enter Tryd.func39, Tryd.ntmps39
    go_wp2_with (fail)
    go_ret
    exact ⟨ret_str (by rw [dd_last (by omega) (by omega)]; rfl), hr.alloc _⟩
  | succ k ih =>
    intro n h0 hk h1 w hr
    have b1 : 0 ≤ n % 10 := by omega
    have b2 : n % 10 ≤ 9 := by omega
    have hconv := fun w : World => byte_string w (n % 10) b1 b2
    by_cases h : 10 ≤ n
    · have HS := Lib.hid (dd_step h0 h)
      have z1 := dd_size (n / 10) (by omega)
      have z2 : (B [dgt (n % 10)]).size ≤ 1 := Nat.le_refl _
      have z3 : ¬ 9223372036854775807 < (B (decDigits (n / 10).toNat)).size + (B [dgt (n % 10)]).size := by omega
      go_enter Tryd.func39, Tryd.ntmps39
      go_wp2_with ((go_at_call 39; (with_reducible refine (ih (n / 10) (by omega) (by omega) (by omega) _ (hr.alloc _)).mono ?_); rintro e w' ⟨rfl, hr'⟩))
      go_ret
      exact ⟨ret_str (by rw [HS.out, B_append]), hr'⟩
    · have HS := Lib.hid (dd_last h0 h)
      go_enter Tryd.func39, Tryd.ntmps39
      go_wp2_with (fail)
      go_ret
      exact ⟨ret_str (by rw [HS.out]), hr.alloc _⟩
theorem digits_any (n : Int) (h0 : 0 ≤ n) (h1 : n ≤ 9223372036854775807) (w0 w : World) (hr : Rel w0 w) :
    Calls Tryd.prog 39 #[.int .i64 n] w fun e w' => e = .returned (.string (B (decDigits n.toNat))) ∧ Rel w0 w' := rdig_any w0 _ n h0 (Nat.le_refl _) h1 w hr

theorem dash (x : List UInt8) : (⟨#[45]⟩ : ByteArray) ++ B x = B (45 :: x) := B_append [45] x
theorem num_neg (n : Int) (h : n < 0) : (⟨#[45]⟩ : ByteArray) ++ B (decDigits (-n).toNat) = num n := by
  unfold num itoa; rw [if_pos h, dash]; congr 3; omega
theorem num_low (n q r : Int) (h : n < -1000000000000000000) (hq : 0 ≤ q) (hr : 0 ≤ r) (hr' : r < 10) (e : n = -(10 * q + r)) : (⟨#[45]⟩ : ByteArray) ++ B (decDigits q.toNat) ++ B (decDigits r.toNat) = num n := by
  rw [dash, B_append, List.cons_append, ← num_neg n (by omega), dash]
  congr 2
  rw [dd_last hr (by omega), dd_step (n := -n) (by omega) (by omega), show r % 10 = -n % 10 by omega, show q = -n / 10 by omega]
set_option maxHeartbeats 400000 in
theorem rnum_any (n : Int) (h0 : -9223372036854775808 ≤ n) (h1 : n ≤ 9223372036854775807) (w0 w : World) (hr : Rel w0 w) :
    Calls Tryd.prog 33 #[.int .i64 n] w fun e w' => e = .returned (.string (num n)) ∧ Rel w0 w' := by
  by_cases hn : 0 ≤ n
  · have HS := Lib.hid (show B (decDigits n.toNat) = num n by unfold num itoa; rw [if_neg (by omega)])
    go_enter Tryd.func33, Tryd.ntmps33
    go_wp2_with ((go_at_call 39; (with_reducible refine (str_at _ (digits_any _ hn h1 _ _ hr) HS).mono ?_); rintro e w' ⟨rfl, hr'⟩))
    go_ret
    exact ⟨rfl, hr'⟩
  · by_cases hb : n < -1000000000000000000
    · have hq := tdt n 10 (by omega)
      have q1 : n.tdiv 10 ≤ 0 := by omega
      have q2 : -922337203685477580 ≤ n.tdiv 10 := by omega
      have q3 : n.tmod 10 ≤ 0 := by omega
      have q4 : -9 ≤ n.tmod 10 := by omega
      have z1 := dd_size (-(n.tdiv 10)) (by omega)
      have z2 := dd_size (-(n.tmod 10)) (by omega)
      have HS := Lib.hid (num_low n (-(n.tdiv 10)) (-(n.tmod 10)) (by omega) (by omega) (by omega) (by omega) (by omega))
      clear hq
      go_enter Tryd.func33, Tryd.ntmps33
      go_wp2_with ((go_at_call 39; (with_reducible refine (digits_any _ (by omega) (by omega) _ _ (by assumption)).mono ?_); rintro e w' ⟨rfl, hr'⟩))
      go_ret
      exact ⟨ret_str HS.out, by assumption⟩
    · have z1 := dd_size (-n) (by omega)
      have HS := Lib.hid (num_neg n (by omega))
      go_enter Tryd.func33, Tryd.ntmps33
      go_wp2_with ((go_at_call 39; (with_reducible refine (digits_any _ (by omega) (by omega) _ _ (by assumption)).mono ?_); rintro e w' ⟨rfl, hr'⟩))
      go_ret
      exact ⟨ret_str HS.out, by assumption⟩

set_option maxHeartbeats 400000 in
theorem pick_any (c n : Int) (hc : -9223372036854775808 ≤ c) (hc' : c ≤ 9223372036854775807) (hn : 0 < n) (hn' : n ≤ 9223372036854775807) (w : World) :
    Calls Tryd.prog 16 #[.int .i64 c, .int .i64 n] w fun e w' => e = .returned (.int .i64 (pk c n)) ∧ w = w' := by
  by_cases h : c < 0
  all_goals
    go_enter Tryd.func16, Tryd.ntmps16
    go_wp2
    all_goals
      go_ret
      exact ⟨ret_int (by unfold pk; split <;> first | rfl | omega), rfl⟩
set_option maxHeartbeats 400000 in
theorem eight_any (n : Nat) (hn : n < 65536) (w : World) :
    Calls Tryd.prog 32 #[.int .u16 n] w fun e w' => e = .returned (.int .u16 (dbs 8 n : Nat)) ∧ w = w' := by
  go_enter Tryd.func32, Tryd.ntmps32
  go_wp2
  go_loop [0, 4] (fun a i => ∃ k : Nat, k ≤ 8 ∧ i = .int .i64 k ∧ a = .int .u16 (dbs k n : Nat)) (fun _ i => 8 - (intOf i).toNat)
  case atStart => exact ⟨0, by omega, rfl, rfl⟩
  case round =>
    obtain ⟨k, hk, rfl, rfl⟩ := hrel
    have hm := dbs_bd k hn
    by_cases hlt : k < 8
    · by_cases hh : 32768 ≤ dbs k n
      · have ha := and_hi hm hh
        have HS := Lib.hid (show bits .xor .u16 (IntKind.u16.wrap ((dbs k n : Nat) * 2)) 4129 = (dbs (k + 1) n : Nat) by rw [u16_mix, show dbs (k + 1) n = dbl (dbs k n) from rfl, dbl_hi hh])
        go_wp2_with (fail)
        go_round
        case rel => exact ⟨k + 1, by omega, by go_num, by rw [HS.out]⟩
        case measure => simp [intOf]; omega
      · have ha := and_lo hm hh
        have HS := Lib.hid (show ((dbs k n : Nat) : Int) * 2 = (dbs (k + 1) n : Nat) by rw [show dbs (k + 1) n = dbl (dbs k n) from rfl, dbl_lo hh]; omega)
        go_wp2_with (fail)
        go_round
        case rel => exact ⟨k + 1, by omega, by go_num, by rw [HS.out]⟩
        case measure => simp [intOf]; omega
    · obtain rfl : k = 8 := by omega
      go_wp2_with (fail)
      go_ret
      exact ⟨rfl, rfl⟩
theorem take_snoc (s : ByteArray) (k : Nat) (h : k < s.size) : s.data.toList.take (k + 1) = s.data.toList.take k ++ [s[k]] := by
  rw [List.take_succ_eq_append_getElem (by simpa using h)]; rfl
theorem crc_snoc (s : ByteArray) (k : Nat) (h : k < s.size) : crc (s.data.toList.take (k + 1)) 65535 = dbs 8 (crc (s.data.toList.take k) 65535 ^^^ s[k].toNat * 256) := by
  rw [take_snoc s k h, crc_append, ← stp_eq]; rfl
theorem crc_all (s : ByteArray) (k : Nat) (h : ¬ k < s.size) : crc (s.data.toList.take k) 65535 = crc s.data.toList 65535 := by
  rw [List.take_of_length_le (by simp; omega)]
set_option maxHeartbeats 400000 in
theorem of_any (s : ByteArray) (hs : s.size ≤ 9223372036854775807) (w : World) :
    Calls Tryd.prog 23 #[.string s] w fun e w' => e = .returned (.int .i64 (crc s.data.toList 65535 : Nat)) ∧ w = w' := by
  go_enter Tryd.func23, Tryd.ntmps23
  go_wp2
  go_loop [3, 7] (fun a i => ∃ k : Nat, k ≤ s.size ∧ i = .int .i64 k ∧ a = .int .u16 (crc (s.data.toList.take k) 65535 : Nat)) (fun _ i => s.size - (intOf i).toNat)
  case atStart => exact ⟨0, by omega, rfl, rfl⟩
  case round =>
    obtain ⟨k, hk, rfl, rfl⟩ := hrel
    have hm := crc_bd (s.data.toList.take k) (n := 65535) (by omega)
    by_cases hlt : k < s.size
    · have hx := u8_lt s[k]
      have hb := u16_byte _ _ hm hx
      have HS := Lib.hid (crc_snoc s k hlt)
      go_wp2_with (go_at_call 32; (with_reducible refine (eight_any _ (x16 hm (by omega)) _).mono ?_); rintro e w' ⟨rfl, rfl⟩)
      go_round
      case rel => exact ⟨k + 1, by omega, by go_num, by rw [HS.out]⟩
      case measure => simp [intOf]; omega
    · have HS := Lib.hid (crc_all s k hlt)
      go_wp2_with (fail)
      go_ret
      exact ⟨ret_int (by rw [HS.out]), rfl⟩
set_option maxHeartbeats 400000 in
theorem rof_any (s : ByteArray) (hs : s.size ≤ 9223372036854775807) (w : World) :
    Calls Tryd.prog 26 #[.string s] w fun e w' => e = .returned (.int .i64 (crc s.data.toList 65535 : Nat)) ∧ w = w' := by
  go_enter Tryd.func26, Tryd.ntmps26
  go_wp2
  go_loop [3, 4] (fun a i => ∃ k : Nat, k ≤ s.size ∧ i = .int .i64 k ∧ a = .int .i64 (crc (s.data.toList.take k) 65535 : Nat)) (fun _ i => s.size - (intOf i).toNat)
  case atStart => exact ⟨0, by omega, rfl, rfl⟩
  case round =>
    obtain ⟨k, hk, rfl, rfl⟩ := hrel
    have hm := crc_bd (s.data.toList.take k) (n := 65535) (by omega)
    by_cases hlt : k < s.size
    · have hx := u8_lt s[k]
      have hn := x16 hm (show s[k].toNat * 256 < 65536 by omega)
      have HS := Lib.hid (crc_snoc s k hlt)
      have hb := i64_byte _ _ hm hx
      generalize hN : crc (s.data.toList.take k) 65535 ^^^ s[k].toNat * 256 = N at hb hn HS
      clear hN
      go_wp2_with (fail)
      clear hb
      generalize s[k].toNat = c at hx ⊢
      go_loop [3, 5] (fun a i => ∃ j : Nat, j ≤ 8 ∧ i = .int .i64 j ∧ a = .int .i64 (dbs j N : Nat)) (fun _ i => 8 - (intOf i).toNat)
      case atStart => exact ⟨0, by omega, rfl, rfl⟩
      case round =>
        obtain ⟨j, hj, rfl, rfl⟩ := hrel
        have hd := dbs_bd j hn
        by_cases hlt8 : j < 8
        · by_cases hh : 32768 ≤ dbs j N
          · have h1 : decide ((32768 : Int) ≤ (dbs j N : Nat)) = true := decide_eq_true (by omega)
            have H2 := Lib.hid (show bits .xor .i64 ((dbs j N : Nat) * 2 % 65536) 4129 = (dbs (j + 1) N : Nat) by
              rw [show ((dbs j N : Nat) : Int) * 2 % 65536 = ((2 * dbs j N % 65536 : Nat) : Int) by omega, i64_mix _ (by omega), show dbs (j + 1) N = dbl (dbs j N) from rfl, dbl_hi hh])
            go_wp2_with (fail)
            go_round
            case rel => exact ⟨j + 1, by omega, by go_num, by rw [H2.out]⟩
            case measure => simp [intOf]; omega
          · have h1 : decide ((32768 : Int) ≤ (dbs j N : Nat)) = false := decide_eq_false (by omega)
            have H2 := Lib.hid (show ((dbs j N : Nat) : Int) * 2 % 65536 = (dbs (j + 1) N : Nat) by rw [show dbs (j + 1) N = dbl (dbs j N) from rfl, dbl_lo hh]; omega)
            go_wp2_with (fail)
            go_round
            case rel => exact ⟨j + 1, by omega, by go_num, by rw [H2.out]⟩
            case measure => simp [intOf]; omega
        · obtain rfl : j = 8 := by omega
          go_wp2_with (fail)
          go_round
          case rel => exact ⟨k + 1, by omega, by go_num, by rw [HS.out]⟩
          case measure => simp [intOf]; omega
    · have HS := Lib.hid (crc_all s k hlt)
      go_wp2_with (fail)
      go_ret
      exact ⟨ret_int (by rw [HS.out]), rfl⟩

theorem tw_bytes (w : World) (n : Nat) (h : n < 65536) : (convert 43 9 (.slice (some ⟨w.heap.size, 0, none⟩) 2 2)).run Tryd.prog (w.alloc (.cells #[.int .u8 ((n : Int) / 256), .int .u8 ((n : Int) % 256)] 5)) =
    .ok (.string (B (tw n))) (w.alloc (.cells #[.int .u8 ((n : Int) / 256), .int .u8 ((n : Int) % 256)] 5)) := by
  have e1 := tw_hi h
  have e2 := tw_lo n
  rw [show ((n : Int) / 256) = ((UInt8.ofNat (n / 256)).toNat : Int) by rw [e1]; omega, show ((n : Int) % 256) = ((UInt8.ofNat (n % 256)).toNat : Int) by rw [e2]; omega]
  exact run_convert_bytes_back (P := Tryd.prog) _ 43 9 5 ⟨w.heap.size, 0, none⟩ 2 (tw n) Tryd.underlying43 Tryd.underlying5 Tryd.underlying9 (fun j hj => by
    have hj' : j < 2 := hj
    match j, hj' with
    | 0, _ => simp [Addr.add, go_sem, tw]
    | 1, _ => simp [Addr.add, go_sem, tw])
set_option maxHeartbeats 400000 in
theorem bytes_any (n : Nat) (h : n < 65536) (w0 w : World) (hr : Rel w0 w) :
    Calls Tryd.prog 22 #[.int .i64 n] w fun e w' => e = .returned (.string (B (tw n))) ∧ Rel w0 w' := by
  have hconv := fun w : World => tw_bytes w n h
  go_enter Tryd.func22, Tryd.ntmps22
  go_wp2_with (fail)
  go_ret
  exact ⟨rfl, hr.alloc _⟩
set_option maxHeartbeats 400000 in
theorem bytes_no (n : Int) (h : n < 0 ∨ 65535 < n) (w : World) :
    Calls Tryd.prog 22 #[.int .i64 n] w fun e w' => e = .returned (.string (B [])) ∧ w = w' := by
  rcases h with h | h
  · go_enter Tryd.func22, Tryd.ntmps22
    go_wp2_with (fail)
    go_ret
    exact ⟨rfl, rfl⟩
  · have h' : ¬ n < 0 := by omega
    go_enter Tryd.func22, Tryd.ntmps22
    go_wp2_with (fail)
    go_ret
    exact ⟨rfl, rfl⟩
set_option maxHeartbeats 400000 in
theorem rbytes_any (n : Nat) (h : n < 65536) (w0 w : World) (hr : Rel w0 w) :
    Calls Tryd.prog 25 #[.int .i64 n] w fun e w' => e = .returned (.string (B (tw n))) ∧ Rel w0 w' := by
  have hconv := fun w : World => tw_bytes w n h
  go_enter Tryd.func25, Tryd.ntmps25
  go_wp2_with (fail)
  go_ret
  exact ⟨rfl, hr.alloc _⟩
set_option maxHeartbeats 400000 in
theorem rbytes_no (n : Int) (h : n < 0 ∨ 65535 < n) (w : World) :
    Calls Tryd.prog 25 #[.int .i64 n] w fun e w' => e = .returned (.string (B [])) ∧ w = w' := by
  rcases h with h | h
  · go_enter Tryd.func25, Tryd.ntmps25
    go_wp2_with (fail)
    go_ret
    exact ⟨rfl, rfl⟩
  · have h' : ¬ n < 0 := by omega
    go_enter Tryd.func25, Tryd.ntmps25
    go_wp2_with (fail)
    go_ret
    exact ⟨rfl, rfl⟩
end Go.Proofs.YtjbbfcomgglhiaaDoor
