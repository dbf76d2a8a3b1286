/- Plain mathematics of layer 3: a sum's step, that it is one to one, and goes with exclusive or. -/
import Derived.Laws.BitsAllLaws
import Derived.WalkKit
namespace Go.Proofs.YtjbbfcomgglhiaaDoor
set_option linter.unusedVariables false
set_option linter.unusedSimpArgs false

theorem xself (a : Nat) : a ^^^ a = 0 := Nat.xor_self a
theorem xcancel (a b : Nat) : a ^^^ (a ^^^ b) = b := by rw [← Nat.xor_assoc, Nat.xor_self, Nat.zero_xor]
theorem xinj {a b c : Nat} (h : a ^^^ b = a ^^^ c) : b = c := by rw [← xcancel a b, h, xcancel]
theorem xinj' {a b c : Nat} (h : b ^^^ a = c ^^^ a) : b = c := xinj (a := a) (by rw [Nat.xor_comm a b, h, Nat.xor_comm])
theorem xzero {a b : Nat} (h : a ^^^ b = 0) : a = b := (xinj (a := a) (by rw [h, xself])).symm
theorem xswap (a b c d : Nat) : (a ^^^ b) ^^^ (c ^^^ d) = (a ^^^ c) ^^^ (b ^^^ d) := by
  rw [Nat.xor_assoc, Nat.xor_assoc, ← Nat.xor_assoc b c d, Nat.xor_comm b c, Nat.xor_assoc c b d]
theorem x16 {a b : Nat} (ha : a < 65536) (hb : b < 65536) : a ^^^ b < 65536 := Nat.xor_lt_two_pow (n := 16) ha hb
theorem xdbl (a b : Nat) : 2 * (a ^^^ b) = 2 * a ^^^ 2 * b := by
  have h := @Nat.shiftLeft_xor_distrib 1 a b
  simp only [Nat.shiftLeft_eq] at h
  rw [Nat.mul_comm 2, Nat.mul_comm 2 a, Nat.mul_comm 2 b]
  exact h
theorem xmod (a b : Nat) : (a ^^^ b) % 65536 = a % 65536 ^^^ b % 65536 := @Nat.xor_mod_two_pow a b 16
theorem xmod8 (a b : Nat) : (a ^^^ b) % 256 = a % 256 ^^^ b % 256 := @Nat.xor_mod_two_pow a b 8
theorem xdiv8 (a b : Nat) : (a ^^^ b) / 256 = a / 256 ^^^ b / 256 := @Nat.xor_div_two_pow a b 8
theorem xmod1 (a b : Nat) : (a ^^^ b) % 2 = a % 2 ^^^ b % 2 := @Nat.xor_mod_two_pow a b 1
theorem xdiv15 (a b : Nat) : (a ^^^ b) / 32768 = a / 32768 ^^^ b / 32768 := @Nat.xor_div_two_pow a b 15
theorem xhigh {a b : Nat} (ha : a < 65536) (hb : b < 65536) : (32768 ≤ a ^^^ b) ↔ ((32768 ≤ a) ↔ ¬ (32768 ≤ b)) := by
  have h := xdiv15 a b
  have hx := x16 ha hb
  by_cases h1 : 32768 ≤ a <;> by_cases h2 : 32768 ≤ b
  · rw [show a / 32768 = 1 by omega, show b / 32768 = 1 by omega, xself] at h
    omega
  · rw [show a / 32768 = 1 by omega, show b / 32768 = 0 by omega, Nat.xor_zero] at h
    omega
  · rw [show a / 32768 = 0 by omega, show b / 32768 = 1 by omega, Nat.zero_xor] at h
    omega
  · rw [show a / 32768 = 0 by omega, show b / 32768 = 0 by omega, Nat.zero_xor] at h
    omega

theorem and_hi {m : Nat} (h : m < 65536) (hh : 32768 ≤ m) : (bits .and .u16 (m : Int) 32768 != 0) = true := by
  have e := u16_and_nat m 32768 h (by omega)
  have d := @Nat.and_div_two_pow m 32768 15
  rw [show m / 2 ^ 15 = 1 by omega, show (32768 : Nat) / 2 ^ 15 = 1 by omega, Nat.and_self] at d
  rw [show ((32768 : Nat) : Int) = 32768 from rfl] at e
  rw [e, bne_iff_ne]
  omega
theorem and_lo {m : Nat} (h : m < 65536) (hh : ¬ 32768 ≤ m) : (bits .and .u16 (m : Int) 32768 != 0) = false := by
  have e := u16_and_nat m 32768 h (by omega)
  have d := @Nat.and_div_two_pow m 32768 15
  have r := @Nat.and_mod_two_pow m 32768 15
  rw [show m / 2 ^ 15 = 0 by omega, Nat.zero_and] at d
  rw [show (32768 : Nat) % 2 ^ 15 = 0 by omega, Nat.and_zero] at r
  rw [show ((32768 : Nat) : Int) = 32768 from rfl] at e
  rw [e, bne_eq_false_iff_eq]
  omega
theorem u16_dbl (m : Nat) : IntKind.u16.wrap ((m : Int) * 2) = ((2 * m % 65536 : Nat) : Int) := by
  rw [IntKind.wrap_u16]; omega
theorem u16_mix (m : Nat) : bits .xor .u16 (IntKind.u16.wrap ((m : Int) * 2)) 4129 = ((2 * m % 65536 ^^^ 4129 : Nat) : Int) := by
  rw [u16_dbl]
  exact u16_xor_nat _ 4129 (by omega) (by omega)
theorem i64_mix (m : Nat) (h : m < 65536) : bits .xor .i64 (m : Int) 4129 = ((m ^^^ 4129 : Nat) : Int) := by
  have hx : m ^^^ 4129 < 2 ^ 16 := Nat.xor_lt_two_pow (n := 16) h (by omega)
  show IntKind.i64.wrap ((BitVec.ofInt 64 (m : Int) ^^^ BitVec.ofInt 64 ((4129 : Nat) : Int)).toNat : Int) = _
  rw [BitVec.toNat_xor, BitVec.ofInt_natCast, BitVec.ofInt_natCast, BitVec.toNat_ofNat, BitVec.toNat_ofNat, Nat.mod_eq_of_lt (a := m) (by omega), Nat.mod_eq_of_lt (a := 4129) (by omega), IntKind.wrap_i64]
  omega
theorem i64_byte (m c : Nat) (h : m < 65536) (hc : c < 256) : bits .xor .i64 (m : Int) ((c : Int) * 256) = ((m ^^^ c * 256 : Nat) : Int) := by
  have hx : m ^^^ c * 256 < 2 ^ 16 := Nat.xor_lt_two_pow (n := 16) h (by omega)
  show IntKind.i64.wrap ((BitVec.ofInt 64 (m : Int) ^^^ BitVec.ofInt 64 ((c : Int) * 256)).toNat : Int) = _
  rw [show ((c : Int) * 256) = ((c * 256 : Nat) : Int) by omega, BitVec.toNat_xor, BitVec.ofInt_natCast, BitVec.ofInt_natCast, BitVec.toNat_ofNat, BitVec.toNat_ofNat, Nat.mod_eq_of_lt (a := m) (by omega), Nat.mod_eq_of_lt (a := c * 256) (by omega), IntKind.wrap_i64]
  omega
theorem u16_byte (m c : Nat) (h : m < 65536) (hc : c < 256) : bits .xor .u16 (m : Int) ((c : Int) * 256) = ((m ^^^ c * 256 : Nat) : Int) := by
  rw [show (c : Int) * 256 = ((c * 256 : Nat) : Int) by omega]
  exact u16_xor_nat _ _ h (by omega)

/-- A sum that is doubled once. -/
def dbl (n : Nat) : Nat := if 32768 ≤ n then 2 * n % 65536 ^^^ 4129 else 2 * n % 65536
theorem dbl_hi {n : Nat} (h : 32768 ≤ n) : dbl n = 2 * n % 65536 ^^^ 4129 := if_pos h
theorem dbl_lo {n : Nat} (h : ¬ 32768 ≤ n) : dbl n = 2 * n % 65536 := if_neg h
theorem dbl_bd (n : Nat) : dbl n < 65536 := by
  unfold dbl
  split
  · exact x16 (by omega) (by omega)
  · omega
theorem dbl_xor {a b : Nat} (ha : a < 65536) (hb : b < 65536) : dbl (a ^^^ b) = dbl a ^^^ dbl b := by
  have hx := xhigh ha hb
  have e : 2 * (a ^^^ b) % 65536 = 2 * a % 65536 ^^^ 2 * b % 65536 := by rw [xdbl, xmod]
  by_cases h1 : 32768 ≤ a <;> by_cases h2 : 32768 ≤ b
  · rw [dbl_lo (n := a ^^^ b) (fun h => (hx.1 h).1 h1 h2), dbl_hi h1, dbl_hi h2, e, xswap, xself, Nat.xor_zero]
  · rw [dbl_hi (n := a ^^^ b) (hx.2 ⟨fun _ => h2, fun _ => h1⟩), dbl_hi h1, dbl_lo h2, e, Nat.xor_assoc, Nat.xor_assoc, Nat.xor_comm (2 * b % 65536)]
  · rw [dbl_hi (n := a ^^^ b) (hx.2 ⟨fun h => absurd h h1, fun h => absurd h2 h⟩), dbl_lo h1, dbl_hi h2, e, Nat.xor_assoc]
  · rw [dbl_lo (n := a ^^^ b) (fun h => h1 ((hx.1 h).2 h2)), dbl_lo h1, dbl_lo h2, e]
theorem dbl_odd (n : Nat) : dbl n % 2 = if 32768 ≤ n then 1 else 0 := by
  unfold dbl
  split
  · rw [xmod1, show 2 * n % 65536 % 2 = 0 by omega]
    rfl
  · omega
theorem dbl_inj {a b : Nat} (ha : a < 65536) (hb : b < 65536) (h : dbl a = dbl b) : a = b := by
  have o := dbl_odd a
  rw [h, dbl_odd b] at o
  by_cases h1 : 32768 ≤ a <;> by_cases h2 : 32768 ≤ b
  · rw [dbl_hi h1, dbl_hi h2] at h
    have := xinj' h
    omega
  · rw [if_pos h1, if_neg h2] at o; omega
  · rw [if_neg h1, if_pos h2] at o; omega
  · rw [dbl_lo h1, dbl_lo h2] at h
    omega
/-- A sum that is doubled so many times. -/
def dbs : Nat → Nat → Nat
  | 0, n => n
  | k + 1, n => dbl (dbs k n)
theorem dbs_bd (k : Nat) {n : Nat} (h : n < 65536) : dbs k n < 65536 := by
  cases k with
  | zero => exact h
  | succ k => exact dbl_bd _
theorem dbs_xor (k : Nat) {a b : Nat} (ha : a < 65536) (hb : b < 65536) : dbs k (a ^^^ b) = dbs k a ^^^ dbs k b := by
  induction k with
  | zero => rfl
  | succ k ih =>
    show dbl (dbs k (a ^^^ b)) = dbl (dbs k a) ^^^ dbl (dbs k b)
    rw [ih, dbl_xor (dbs_bd k ha) (dbs_bd k hb)]
theorem dbs_inj (k : Nat) {a b : Nat} (ha : a < 65536) (hb : b < 65536) (h : dbs k a = dbs k b) : a = b := by
  induction k with
  | zero => exact h
  | succ k ih => exact ih (dbl_inj (dbs_bd k ha) (dbs_bd k hb) h)
theorem dbs_add (j k n : Nat) : dbs j (dbs k n) = dbs (j + k) n := by
  induction j with
  | zero => rw [Nat.zero_add]; rfl
  | succ j ih => rw [Nat.succ_add]; show dbl _ = dbl _; rw [ih]
theorem dbs_zero (k : Nat) : dbs k 0 = 0 := by
  induction k with
  | zero => rfl
  | succ k ih => show dbl (dbs k 0) = 0; rw [ih]; rfl
theorem dbs_low {q : Nat} (h : q < 256) : dbs 8 q = q * 256 := by
  have e1 : dbl q = 2 * q := by rw [dbl_lo (by omega)]; omega
  have e2 : dbl (2 * q) = 4 * q := by rw [dbl_lo (by omega)]; omega
  have e3 : dbl (4 * q) = 8 * q := by rw [dbl_lo (by omega)]; omega
  have e4 : dbl (8 * q) = 16 * q := by rw [dbl_lo (by omega)]; omega
  have e5 : dbl (16 * q) = 32 * q := by rw [dbl_lo (by omega)]; omega
  have e6 : dbl (32 * q) = 64 * q := by rw [dbl_lo (by omega)]; omega
  have e7 : dbl (64 * q) = 128 * q := by rw [dbl_lo (by omega)]; omega
  have e8 : dbl (128 * q) = 256 * q := by rw [dbl_lo (by omega)]; omega
  show dbl (dbl (dbl (dbl (dbl (dbl (dbl (dbl q))))))) = q * 256
  rw [e1, e2, e3, e4, e5, e6, e7, e8]; omega

/-- A sum behind one byte more. -/
theorem stp_is : ∃ f : Nat → Nat → Nat, ∀ n c, f n c = dbs 8 (n ^^^ c * 256) := ⟨fun n c => dbs 8 (n ^^^ c * 256), fun _ _ => rfl⟩
noncomputable def stp : Nat → Nat → Nat := stp_is.choose
theorem stp_eq (n c : Nat) : stp n c = dbs 8 (n ^^^ c * 256) := stp_is.choose_spec n c
theorem stp_bd {n c : Nat} (hn : n < 65536) (hc : c < 256) : stp n c < 65536 := by rw [stp_eq]; exact dbs_bd 8 (x16 hn (by omega))
theorem stp_inj {n m c : Nat} (hn : n < 65536) (hm : m < 65536) (hc : c < 256) (h : stp n c = stp m c) : n = m := by
  rw [stp_eq, stp_eq] at h
  exact xinj' (dbs_inj 8 (x16 hn (by omega)) (x16 hm (by omega)) h)
theorem stp_inj' {n c d : Nat} (hn : n < 65536) (hc : c < 256) (hd : d < 256) (h : stp n c = stp n d) : c = d := by
  rw [stp_eq, stp_eq] at h
  have := xinj (dbs_inj 8 (x16 hn (by omega)) (x16 hn (by omega)) h)
  omega
/-- Two bytes, as one number of 16 bits. -/
theorem pair_xor {p q : Nat} (hq : q < 256) : p * 256 ^^^ q = p * 256 + q := by
  have h1 := xdiv8 (p * 256) q
  have h2 := xmod8 (p * 256) q
  rw [show p * 256 / 256 = p by omega, show q / 256 = 0 by omega, Nat.xor_zero] at h1
  rw [show p * 256 % 256 = 0 by omega, show q % 256 = q by omega, Nat.zero_xor] at h2
  omega
theorem stp_tw {n p q : Nat} (hn : n < 65536) (hp : p < 256) (hq : q < 256) : stp (stp n p) q = dbs 16 (n ^^^ (p * 256 + q)) := by
  have hx := x16 hn (show p * 256 < 65536 by omega)
  rw [stp_eq, stp_eq, ← dbs_low hq, ← dbs_xor 8 hx (by omega), dbs_add, Nat.xor_assoc, pair_xor hq]
/-- A text's sum, from a sum on. -/
noncomputable def crc : List UInt8 → Nat → Nat
  | [], n => n
  | c :: l, n => crc l (stp n c.toNat)
theorem crc_append (a b : List UInt8) (n : Nat) : crc (a ++ b) n = crc b (crc a n) := by
  induction a generalizing n with
  | nil => rfl
  | cons c l ih => exact ih (stp n c.toNat)
/-- The same, to be reckoned by the kernel. -/
def crcF : List UInt8 → Nat → Nat
  | [], n => n
  | c :: l, n => crcF l (dbs 8 (n ^^^ c.toNat * 256))
theorem crc_F (l : List UInt8) (n : Nat) : crc l n = crcF l n := by
  induction l generalizing n with
  | nil => rfl
  | cons c l ih => exact (ih (stp n c.toNat)).trans (by rw [stp_eq]; rfl)
theorem u8_lt (c : UInt8) : c.toNat < 256 := c.toNat_lt
theorem crc_bd (l : List UInt8) {n : Nat} (h : n < 65536) : crc l n < 65536 := by
  induction l generalizing n with
  | nil => exact h
  | cons c l ih => exact ih (stp_bd h (u8_lt c))
theorem crc_inj (l : List UInt8) {n m : Nat} (hn : n < 65536) (hm : m < 65536) (h : crc l n = crc l m) : n = m := by
  induction l generalizing n m with
  | nil => exact h
  | cons c l ih => exact stp_inj hn hm (u8_lt c) (ih (stp_bd hn (u8_lt c)) (stp_bd hm (u8_lt c)) h)
theorem u8_inj {c d : UInt8} (h : c.toNat = d.toNat) : c = d := UInt8.toNat_inj.1 h
/-- One byte behind a text, and one ahead. -/
theorem crc_behind (a : List UInt8) {n : Nat} (hn : n < 65536) (c d : UInt8) : crc (a ++ [c]) n = crc (a ++ [d]) n ↔ c = d := by
  refine ⟨fun h => ?_, fun h => by rw [h]⟩
  rw [crc_append, crc_append] at h
  exact u8_inj (stp_inj' (crc_bd a hn) (u8_lt c) (u8_lt d) h)
theorem crc_ahead (a : List UInt8) {n : Nat} (hn : n < 65536) (c d : UInt8) : crc ([c] ++ a) n = crc ([d] ++ a) n ↔ c = d := by
  refine ⟨fun h => ?_, fun h => by rw [h]⟩
  exact u8_inj (stp_inj' hn (u8_lt c) (u8_lt d) (crc_inj a (stp_bd hn (u8_lt c)) (stp_bd hn (u8_lt d)) h))
/-- Two bytes side by side. -/
theorem crc_pair (a b : List UInt8) {n : Nat} (hn : n < 65536) (c d c' d' : UInt8) : crc (a ++ c :: d :: b) n = crc (a ++ c' :: d' :: b) n ↔ (c = c' ∧ d = d') := by
  refine ⟨fun h => ?_, fun h => by rw [h.1, h.2]⟩
  rw [crc_append, crc_append] at h
  have hm := crc_bd a hn
  have b1 := u8_lt c
  have b2 := u8_lt d
  have b3 := u8_lt c'
  have b4 := u8_lt d'
  have e : stp (stp (crc a n) c.toNat) d.toNat = stp (stp (crc a n) c'.toNat) d'.toNat := crc_inj b (stp_bd (stp_bd hm b1) b2) (stp_bd (stp_bd hm b3) b4) h
  rw [stp_tw hm b1 b2, stp_tw hm b3 b4] at e
  have := xinj (dbs_inj 16 (x16 hm (by omega)) (x16 hm (by omega)) e)
  exact ⟨u8_inj (by omega), u8_inj (by omega)⟩
/-- A number's tw bytes, the higher one first. -/
def tw (n : Nat) : List UInt8 := [UInt8.ofNat (n / 256), UInt8.ofNat (n % 256)]
theorem tw_hi {n : Nat} (h : n < 65536) : (UInt8.ofNat (n / 256)).toNat = n / 256 := by
  rw [UInt8.toNat_ofNat']; exact Nat.mod_eq_of_lt (by omega)
theorem tw_lo (n : Nat) : (UInt8.ofNat (n % 256)).toNat = n % 256 := by
  rw [UInt8.toNat_ofNat']; exact Nat.mod_eq_of_lt (by omega)
theorem tw_inj {n m : Nat} (hn : n < 65536) (hm : m < 65536) : tw n = tw m ↔ n = m := by
  refine ⟨fun h => ?_, fun h => by rw [h]⟩
  unfold tw at h
  have h1 := (List.cons.inj h).1
  have h2 := (List.cons.inj (List.cons.inj h).2).1
  have e1 := congrArg UInt8.toNat h1
  have e2 := congrArg UInt8.toNat h2
  rw [tw_hi hn, tw_hi hm] at e1
  rw [tw_lo, tw_lo] at e2
  omega
theorem crc_tw (a : List UInt8) {n : Nat} (hn : n < 65536) {k : Nat} (hk : k < 65536) : crc (a ++ tw k) n = dbs 16 (crc a n ^^^ k) := by
  rw [crc_append]
  show stp (stp (crc a n) (UInt8.ofNat (k / 256)).toNat) (UInt8.ofNat (k % 256)).toNat = _
  rw [tw_hi hk, tw_lo, stp_tw (crc_bd a hn) (by omega) (by omega), show k / 256 * 256 + k % 256 = k by omega]
theorem crc_123 : crc [49, 50, 51, 52, 53, 54, 55, 56, 57] 65535 = 10673 := by rw [crc_F]; decide +kernel
theorem crc_own (a : List UInt8) {n : Nat} (hn : n < 65536) : crc (a ++ tw (crc a n)) n = 0 := by
  rw [crc_tw a hn (crc_bd a hn), xself, dbs_zero]
theorem crc_nought (a : List UInt8) {n : Nat} (hn : n < 65536) {k : Nat} (hk : k < 65536) : crc (a ++ tw k) n = 0 ↔ k = crc a n := by
  refine ⟨fun h => ?_, fun h => by rw [h]; exact crc_own a hn⟩
  rw [crc_tw a hn hk] at h
  have hm := crc_bd a hn
  exact (xzero (dbs_inj 16 (x16 hm hk) (by omega) (by rw [h, dbs_zero]))).symm
end Go.Proofs.YtjbbfcomgglhiaaDoor
