/- The small contracts of layer 3: raw numbers, sums (the program's and the document's own), a sum's bytes. -/
import Derived.Test.YtokepfcebkpnfaaRows
import Derived.Test.YtokepfcebkpnfaaSumMath
import Derived.WalkKit
import Derived.WalkSpells
import Derived.WalkLawsBesides
import Derived.BigQuiet
import Derived.Deep.QuietTactic
import Derived.Lib.Hide
import Derived.Lib.SmallJoins
import Derived.Below
import Derived.Laws.IdiomStrings
namespace Go.Proofs.Ytokepfcebkpnfaa
open Go.RowKit Go.Lib
set_option linter.unusedVariables false
set_option linter.unusedSimpArgs false

theorem ret_int {k : IntKind} {a b : Int} (h : a = b) : Ending.returned (.int k a) = .returned (.int k b) := by rw [h]
theorem ret_bool {a b : Bool} (h : a = b) : Ending.returned (.bool a) = .returned (.bool b) := by rw [h]
theorem ret_str {a b : ByteArray} (h : a = b) : Ending.returned (.string a) = .returned (.string b) := by rw [h]
set_option maxHeartbeats 400000 in
theorem eight_any (n : Nat) (hn : n < 65536) (w : World) :
    Calls Try.prog 15 #[.int .u16 n] w fun e w' => e = .returned (.int .u16 (dbs 8 n : Nat)) ∧ w = w' := by
  go_enter Try.func15, Try.ntmps15
  go_wp2
  go_loop [0, 4] (fun a i => ∃ k : Nat, k ≤ 8 ∧ i = .int .i64 k ∧ a = .int .u16 (dbs k n : Nat)) (fun _ i => 8 - (intOf i).toNat)
  case atStart => exact ⟨0, by omega, rfl, rfl⟩
  case round =>
    obtain ⟨k, hk, rfl, rfl⟩ := hrel
    have hm := dbs_bd k hn
    by_cases hlt : k < 8
    · by_cases hh : 32768 ≤ dbs k n
      · have ha := and_hi hm hh
        have HS := Lib.hid (show bits .xor .u16 (IntKind.u16.wrap ((dbs k n : Nat) * 2)) 4129 = (dbs (k + 1) n : Nat) by rw [u16_mix, show dbs (k + 1) n = dbl (dbs k n) from rfl, dbl_hi hh])
        go_wp2_with (fail)
        go_round
        case rel => exact ⟨k + 1, by omega, by go_num, by rw [HS.out]⟩
        case measure => simp [intOf]; omega
      · have ha := and_lo hm hh
        have HS := Lib.hid (show ((dbs k n : Nat) : Int) * 2 = (dbs (k + 1) n : Nat) by rw [show dbs (k + 1) n = dbl (dbs k n) from rfl, dbl_lo hh]; omega)
        go_wp2_with (fail)
        go_round
        case rel => exact ⟨k + 1, by omega, by go_num, by rw [HS.out]⟩
        case measure => simp [intOf]; omega
    · obtain rfl : k = 8 := by omega
      go_wp2_with (fail)
      go_ret
      exact ⟨rfl, rfl⟩
theorem take_snoc (s : ByteArray) (k : Nat) (h : k < s.size) : s.data.toList.take (k + 1) = s.data.toList.take k ++ [s[k]] := by
  rw [List.take_succ_eq_append_getElem (by simpa using h)]; rfl
theorem crc_snoc (s : ByteArray) (k : Nat) (h : k < s.size) : crc (s.data.toList.take (k + 1)) 65535 = dbs 8 (crc (s.data.toList.take k) 65535 ^^^ s[k].toNat * 256) := by
  rw [take_snoc s k h, crc_append, ← stp_eq]; rfl
theorem crc_all (s : ByteArray) (k : Nat) (h : ¬ k < s.size) : crc (s.data.toList.take k) 65535 = crc s.data.toList 65535 := by
  rw [List.take_of_length_le (by simp; omega)]
set_option maxHeartbeats 400000 in
theorem of_any (s : ByteArray) (hs : s.size ≤ 9223372036854775807) (w : World) :
    Calls Try.prog 10 #[.string s] w fun e w' => e = .returned (.int .i64 (crc s.data.toList 65535 : Nat)) ∧ w = w' := by
  go_enter Try.func10, Try.ntmps10
  go_wp2
  go_loop [3, 7] (fun a i => ∃ k : Nat, k ≤ s.size ∧ i = .int .i64 k ∧ a = .int .u16 (crc (s.data.toList.take k) 65535 : Nat)) (fun _ i => s.size - (intOf i).toNat)
  case atStart => exact ⟨0, by omega, rfl, rfl⟩
  case round =>
    obtain ⟨k, hk, rfl, rfl⟩ := hrel
    have hm := crc_bd (s.data.toList.take k) (n := 65535) (by omega)
    by_cases hlt : k < s.size
    · have hx := u8_lt s[k]
      have hb := u16_byte _ _ hm hx
      have HS := Lib.hid (crc_snoc s k hlt)
      go_wp2_with (go_at_call 15; (with_reducible refine (eight_any _ (x16 hm (by omega)) _).mono ?_); rintro e w' ⟨rfl, rfl⟩)
      go_round
      case rel => exact ⟨k + 1, by omega, by go_num, by rw [HS.out]⟩
      case measure => simp [intOf]; omega
    · have HS := Lib.hid (crc_all s k hlt)
      go_wp2_with (fail)
      go_ret
      exact ⟨ret_int (by rw [HS.out]), rfl⟩
set_option maxHeartbeats 400000 in
theorem rof_any (s : ByteArray) (hs : s.size ≤ 9223372036854775807) (w : World) :
    Calls Try.prog 11 #[.string s] w fun e w' => e = .returned (.int .i64 (crc s.data.toList 65535 : Nat)) ∧ w = w' := by
  go_enter Try.func11, Try.ntmps11
  go_wp2
  go_loop [3, 4] (fun a i => ∃ k : Nat, k ≤ s.size ∧ i = .int .i64 k ∧ a = .int .i64 (crc (s.data.toList.take k) 65535 : Nat)) (fun _ i => s.size - (intOf i).toNat)
  case atStart => exact ⟨0, by omega, rfl, rfl⟩
  case round =>
    obtain ⟨k, hk, rfl, rfl⟩ := hrel
    have hm := crc_bd (s.data.toList.take k) (n := 65535) (by omega)
    by_cases hlt : k < s.size
    · have hx := u8_lt s[k]
      have hn := x16 hm (show s[k].toNat * 256 < 65536 by omega)
      have HS := Lib.hid (crc_snoc s k hlt)
      have hb := i64_byte _ _ hm hx
      generalize hN : crc (s.data.toList.take k) 65535 ^^^ s[k].toNat * 256 = N at hb hn HS
      clear hN
      go_wp2_with (fail)
      clear hb
      generalize s[k].toNat = c at hx ⊢
      go_loop [3, 5] (fun a i => ∃ j : Nat, j ≤ 8 ∧ i = .int .i64 j ∧ a = .int .i64 (dbs j N : Nat)) (fun _ i => 8 - (intOf i).toNat)
      case atStart => exact ⟨0, by omega, rfl, rfl⟩
      case round =>
        obtain ⟨j, hj, rfl, rfl⟩ := hrel
        have hd := dbs_bd j hn
        by_cases hlt8 : j < 8
        · by_cases hh : 32768 ≤ dbs j N
          · have h1 : decide ((32768 : Int) ≤ (dbs j N : Nat)) = true := decide_eq_true (by omega)
            have H2 := Lib.hid (show bits .xor .i64 ((dbs j N : Nat) * 2 % 65536) 4129 = (dbs (j + 1) N : Nat) by
              rw [show ((dbs j N : Nat) : Int) * 2 % 65536 = ((2 * dbs j N % 65536 : Nat) : Int) by omega, i64_mix _ (by omega), show dbs (j + 1) N = dbl (dbs j N) from rfl, dbl_hi hh])
            go_wp2_with (fail)
            go_round
            case rel => exact ⟨j + 1, by omega, by go_num, by rw [H2.out]⟩
            case measure => simp [intOf]; omega
          · have h1 : decide ((32768 : Int) ≤ (dbs j N : Nat)) = false := decide_eq_false (by omega)
            have H2 := Lib.hid (show ((dbs j N : Nat) : Int) * 2 % 65536 = (dbs (j + 1) N : Nat) by rw [show dbs (j + 1) N = dbl (dbs j N) from rfl, dbl_lo hh]; omega)
            go_wp2_with (fail)
            go_round
            case rel => exact ⟨j + 1, by omega, by go_num, by rw [H2.out]⟩
            case measure => simp [intOf]; omega
        · obtain rfl : j = 8 := by omega
          go_wp2_with (fail)
          go_round
          case rel => exact ⟨k + 1, by omega, by go_num, by rw [HS.out]⟩
          case measure => simp [intOf]; omega
    · have HS := Lib.hid (crc_all s k hlt)
      go_wp2_with (fail)
      go_ret
      exact ⟨ret_int (by rw [HS.out]), rfl⟩

def B (l : List UInt8) : ByteArray := ⟨l.toArray⟩
theorem B_list (l : List UInt8) : (B l).data.toList = l := by simp [B]
theorem B_of (s : ByteArray) : B s.data.toList = s := by simp [B]
theorem B_append (a b : List UInt8) : B a ++ B b = B (a ++ b) := ByteArray.mk_append_mk a b
theorem B_size (l : List UInt8) : (B l).size = l.length := by simp [B, ByteArray.size]
theorem B_inj {a b : List UInt8} : B a = B b ↔ a = b := ⟨fun h => by rw [← B_list a, h, B_list], fun h => by rw [h]⟩
def Rel (w0 w : World) : Prop := Below w0.heap.size w0 w
theorem Rel.start (w : World) : Rel w w := Below.refl _ _
theorem Rel.step {w0 w w' : World} (h : Rel w0 w) (hb : Below w.heap.size w w') : Rel w0 w' := Below.trans h (hb.mono h.size)
theorem Rel.alloc {w0 w : World} (h : Rel w0 w) (o : Obj) : Rel w0 (w.alloc o) := Below.alloc h h.size o
theorem Rel.drew {w0 w : World} (h : Rel w0 w) : Rel w0 w.drew := Below.drew h
def pk (c n : Int) : Int := if c < 0 then -((c + 1).tmod n) else c % n
theorem tdt (p n : Int) (hn : 0 < n) : n * p.tdiv n + p.tmod n = p ∧ (0 ≤ p → 0 ≤ p.tmod n) ∧ (p ≤ 0 → p.tmod n ≤ 0) ∧ p.tmod n < n ∧ -n < p.tmod n := by
  refine ⟨Int.mul_tdiv_add_tmod p n, fun h => Int.tmod_nonneg n h, fun h => ?_, Int.tmod_lt_of_pos p hn, ?_⟩
  · have := Int.tmod_nonneg n (a := -p) (by omega)
    rw [Int.neg_tmod] at this; omega
  · have := Int.tmod_lt_of_pos (-p) hn
    rw [Int.neg_tmod] at this; omega
theorem pk_bd (c n : Int) (hn : 0 < n) : 0 ≤ pk c n ∧ pk c n < n := by
  unfold pk
  split
  · have := tdt (c + 1) n hn; omega
  · exact ⟨Int.emod_nonneg c (by omega), Int.emod_lt_of_pos c hn⟩
set_option maxHeartbeats 400000 in
theorem pick_any (c n : Int) (hc : -9223372036854775808 ≤ c) (hc' : c ≤ 9223372036854775807) (hn : 0 < n) (hn' : n ≤ 9223372036854775807) (w : World) :
    Calls Try.prog 14 #[.int .i64 c, .int .i64 n] w fun e w' => e = .returned (.int .i64 (pk c n)) ∧ w = w' := by
  by_cases h : c < 0
  all_goals
    go_enter Try.func14, Try.ntmps14
    go_wp2
    all_goals
      go_ret
      exact ⟨ret_int (by unfold pk; split <;> first | rfl | omega), rfl⟩
/-- A raw number as a number of 16 bits, and as a byte. -/
def pn (c : Int) : Nat := (pk c 65536).toNat
theorem pn_bd (c : Int) : pn c < 65536 := by have := pk_bd c 65536 (by omega); unfold pn; omega
theorem pick16 (c : Int) (hc : -9223372036854775808 ≤ c) (hc' : c ≤ 9223372036854775807) (w : World) :
    Calls Try.prog 14 #[.int .i64 c, .int .i64 65536] w fun e w' => e = .returned (.int .i64 (pn c : Nat)) ∧ w = w' :=
  (pick_any c 65536 hc hc' (by omega) (by omega) w).mono fun e w' ⟨h, h'⟩ => ⟨by rw [h]; exact ret_int (by have := pk_bd c 65536 (by omega); unfold pn; omega), h'⟩
def bn (c : Int) : Nat := (pk c 256).toNat
theorem bn_bd (c : Int) : bn c < 256 := by have := pk_bd c 256 (by omega); unfold bn; omega
theorem pick8 (c : Int) (hc : -9223372036854775808 ≤ c) (hc' : c ≤ 9223372036854775807) (w : World) :
    Calls Try.prog 14 #[.int .i64 c, .int .i64 256] w fun e w' => e = .returned (.int .i64 (bn c : Nat)) ∧ w = w' :=
  (pick_any c 256 hc hc' (by omega) (by omega) w).mono fun e w' ⟨h, h'⟩ => ⟨by rw [h]; exact ret_int (by have := pk_bd c 256 (by omega); unfold bn; omega), h'⟩
theorem two_bytes (w : World) (n : Nat) (h : n < 65536) : (convert 27 9 (.slice (some ⟨w.heap.size, 0, none⟩) 2 2)).run Try.prog (w.alloc (.cells #[.int .u8 ((n : Int) / 256), .int .u8 ((n : Int) % 256)] 5)) =
    .ok (.string (B (two n))) (w.alloc (.cells #[.int .u8 ((n : Int) / 256), .int .u8 ((n : Int) % 256)] 5)) := by
  have e1 := two_hi h
  have e2 := two_lo n
  rw [show ((n : Int) / 256) = ((UInt8.ofNat (n / 256)).toNat : Int) by rw [e1]; omega, show ((n : Int) % 256) = ((UInt8.ofNat (n % 256)).toNat : Int) by rw [e2]; omega]
  exact run_convert_bytes_back (P := Try.prog) _ 27 9 5 ⟨w.heap.size, 0, none⟩ 2 (two n) Try.underlying27 Try.underlying5 Try.underlying9 (fun j hj => by
    have hj' : j < 2 := hj
    match j, hj' with
    | 0, _ => simp [Addr.add, go_sem, two]
    | 1, _ => simp [Addr.add, go_sem, two])
set_option maxHeartbeats 400000 in
theorem bytes_any (n : Nat) (h : n < 65536) (w0 w : World) (hr : Rel w0 w) :
    Calls Try.prog 12 #[.int .i64 n] w fun e w' => e = .returned (.string (B (two n))) ∧ Rel w0 w' := by
  have hconv := fun w : World => two_bytes w n h
  go_enter Try.func12, Try.ntmps12
  go_wp2_with (fail)
  go_ret
  exact ⟨rfl, hr.alloc _⟩
set_option maxHeartbeats 400000 in
theorem bytes_no (n : Int) (h : n < 0 ∨ 65535 < n) (w : World) :
    Calls Try.prog 12 #[.int .i64 n] w fun e w' => e = .returned (.string (B [])) ∧ w = w' := by
  rcases h with h | h
  · go_enter Try.func12, Try.ntmps12
    go_wp2_with (fail)
    go_ret
    exact ⟨rfl, rfl⟩
  · have h' : ¬ n < 0 := by omega
    go_enter Try.func12, Try.ntmps12
    go_wp2_with (fail)
    go_ret
    exact ⟨rfl, rfl⟩
set_option maxHeartbeats 400000 in
theorem rbytes_any (n : Nat) (h : n < 65536) (w0 w : World) (hr : Rel w0 w) :
    Calls Try.prog 13 #[.int .i64 n] w fun e w' => e = .returned (.string (B (two n))) ∧ Rel w0 w' := by
  have hconv := fun w : World => two_bytes w n h
  go_enter Try.func13, Try.ntmps13
  go_wp2_with (fail)
  go_ret
  exact ⟨rfl, hr.alloc _⟩
set_option maxHeartbeats 400000 in
theorem rbytes_no (n : Int) (h : n < 0 ∨ 65535 < n) (w : World) :
    Calls Try.prog 13 #[.int .i64 n] w fun e w' => e = .returned (.string (B [])) ∧ w = w' := by
  rcases h with h | h
  · go_enter Try.func13, Try.ntmps13
    go_wp2_with (fail)
    go_ret
    exact ⟨rfl, rfl⟩
  · have h' : ¬ n < 0 := by omega
    go_enter Try.func13, Try.ntmps13
    go_wp2_with (fail)
    go_ret
    exact ⟨rfl, rfl⟩
def bt (n : Int) : ByteArray := if 0 ≤ n ∧ n ≤ 65535 then B (two n.toNat) else B []
theorem bt_yes (n : Nat) (h : n < 65536) : bt n = B (two n) := by unfold bt; rw [if_pos (by omega)]; rfl
theorem bytes_all (n : Int) (w0 w : World) (hr : Rel w0 w) :
    Calls Try.prog 12 #[.int .i64 n] w fun e w' => e = .returned (.string (bt n)) ∧ Rel w0 w' := by
  by_cases h : 0 ≤ n ∧ n ≤ 65535
  · obtain ⟨m, rfl⟩ := Int.eq_ofNat_of_zero_le h.1
    rw [bt_yes m (by omega)]
    exact bytes_any m (by omega) w0 w hr
  · refine (bytes_no n (by omega) w).mono ?_
    rintro e w' ⟨rfl, rfl⟩
    exact ⟨by unfold bt; rw [if_neg h], hr⟩
theorem rbytes_all (n : Int) (w0 w : World) (hr : Rel w0 w) :
    Calls Try.prog 13 #[.int .i64 n] w fun e w' => e = .returned (.string (bt n)) ∧ Rel w0 w' := by
  by_cases h : 0 ≤ n ∧ n ≤ 65535
  · obtain ⟨m, rfl⟩ := Int.eq_ofNat_of_zero_le h.1
    rw [bt_yes m (by omega)]
    exact rbytes_any m (by omega) w0 w hr
  · refine (rbytes_no n (by omega) w).mono ?_
    rintro e w' ⟨rfl, rfl⟩
    exact ⟨by unfold bt; rw [if_neg h], hr⟩
theorem int_at {f : FuncId} {args : Array Value} {w : World} {R : World → Prop} {x : Int} (y : Int) (c : Calls Try.prog f args w fun e w' => e = .returned (.int .i64 x) ∧ R w') (h : Hid (x = y)) : Calls Try.prog f args w fun e w' => e = .returned (.int .i64 y) ∧ R w' := by
  have e := h.out; subst e; exact c
theorem str_at {f : FuncId} {args : Array Value} {w : World} {R : World → Prop} {x : ByteArray} (y : ByteArray) (c : Calls Try.prog f args w fun e w' => e = .returned (.string x) ∧ R w') (h : Hid (x = y)) : Calls Try.prog f args w fun e w' => e = .returned (.string y) ∧ R w' := by
  have e := h.out; subst e; exact c
set_option maxHeartbeats 1000000 in
theorem awake_any (w0 w : World) (hr : Rel w0 w) :
    Calls Try.prog 9 #[] w fun e w' => e = .returned (.bool true) ∧ Rel w0 w' := by
  have A1 := Lib.hid (show ((crc (⟨#[49, 50, 51, 52, 53, 54, 55, 56, 57]⟩ : ByteArray).data.toList 65535 : Nat) : Int) = 10673 from congrArg Int.ofNat crc_123)
  have A2 := Lib.hid (show ((crc (⟨#[]⟩ : ByteArray).data.toList 65535 : Nat) : Int) = 65535 from rfl)
  have B1 := Lib.hid (show bt 10673 = ⟨#[41, 177]⟩ from bt_yes 10673 (by omega))
  have B2 := Lib.hid (show bt (-1) = ⟨#[]⟩ from rfl)
  have B3 := Lib.hid (show bt 65536 = ⟨#[]⟩ from rfl)
  have z1 : (⟨#[49, 50, 51, 52, 53, 54, 55, 56, 57]⟩ : ByteArray).size ≤ 9223372036854775807 := by show 9 ≤ _; omega
  have z2 : (⟨#[]⟩ : ByteArray).size ≤ 9223372036854775807 := by show 0 ≤ _; omega
  go_enter Try.func9, Try.ntmps9
  go_wp2_with (first
    | (go_at_call 10; (first | (with_reducible refine (int_at 10673 (of_any ⟨#[49, 50, 51, 52, 53, 54, 55, 56, 57]⟩ z1 _) A1).mono ?_) | (with_reducible refine (int_at 65535 (of_any ⟨#[]⟩ z2 _) A2).mono ?_)); rintro e w' ⟨rfl, rfl⟩)
    | (go_at_call 12; (first | (with_reducible refine (str_at _ (bytes_all 10673 _ _ (by assumption)) B1).mono ?_) | (with_reducible refine (str_at _ (bytes_all (-1) _ _ (by assumption)) B2).mono ?_) | (with_reducible refine (str_at _ (bytes_all 65536 _ _ (by assumption)) B3).mono ?_)); rintro e w' ⟨rfl, hr'⟩))
  go_ret
  exact ⟨rfl, by assumption⟩
end Go.Proofs.Ytokepfcebkpnfaa
