/- A record's body and its frame: the document's own. -/
import Derived.Test.YtjbbfcomgglhiaaDoorRecLeaf
namespace Go.Proofs.YtjbbfcomgglhiaaDoor
open Go.RowKit Go.Lib
set_option linter.unusedVariables false
set_option linter.unusedSimpArgs false

theorem num_len (n : Int) (h0 : -9223372036854775808 ≤ n) (h1 : n ≤ 9223372036854775807) : (num n).size ≤ 21 := by
  unfold num; rw [B_size]; exact itoa_length_le n h0 h1
/-- The three cells of a record that was boxed. -/
theorem box3 {x0 x1 x2 : Value} {t : TypeId} {w wr : World} (h : Rel (w.alloc (.cells #[x0, x1, x2] t)) wr) :
    wr.cell? ⟨w.heap.size, 0, none⟩ = some x0 ∧ wr.cell? ⟨w.heap.size, 1, none⟩ = some x1 ∧ wr.cell? ⟨w.heap.size, 2, none⟩ = some x2 := by
  have hs : w.heap.size < (w.alloc (.cells #[x0, x1, x2] t)).heap.size := by simp
  refine ⟨?_, ?_, ?_⟩
  · rw [h.2.cell (p := ⟨w.heap.size, 0, none⟩) hs]; simp [go_sem]
  · rw [h.2.cell (p := ⟨w.heap.size, 1, none⟩) hs]; simp [go_sem]
  · rw [h.2.cell (p := ⟨w.heap.size, 2, none⟩) hs]; simp [go_sem]
theorem Rel.self {w0 w : World} (h : Rel w0 w) : Rel w w := Rel.start h.tab
theorem Rel.trans {a b c : World} (h : Rel a b) (h' : Rel b c) : Rel a c := h.step h'.2
theorem IntsAt.alloc {w : World} {A : Option Addr} {xs : List Int} (h : IntsAt w A xs) (o : Obj) : IntsAt (w.alloc o) A xs := h.below (Below.alloc (Below.refl _ _) (Nat.le_refl _) o)
theorem nums_snoc (xs : List Int) (j : Nat) (h : j < xs.length) : frNums (xs.take (j + 1)) = frNums (xs.take j) ++ 32 :: itoa xs[j] := by
  rw [List.take_succ_eq_append_getElem h]
  generalize xs.take j = l
  induction l with
  | nil => simp [frNums]
  | cons n t ih => simp only [List.cons_append, frNums, ih, List.append_assoc]
theorem body_more (k : Int) (xs : List Int) (j : Nat) (h : j < xs.length) : B (itoa k ++ frNums (xs.take j)) ++ (⟨#[32]⟩ : ByteArray) ++ num xs[j] = B (itoa k ++ frNums (xs.take (j + 1))) := by
  rw [nums_snoc xs j h]
  unfold num
  rw [show (⟨#[32]⟩ : ByteArray) = B [32] from rfl, B_append, B_append]
  simp [List.append_assoc]
theorem body_last (k : Int) (xs : List Int) (t : ByteArray) : B (itoa k ++ frNums xs) ++ (⟨#[58]⟩ : ByteArray) ++ t = B (frBody (k, xs, t.data.toList)) := by
  unfold frBody
  rw [show (⟨#[58]⟩ : ByteArray) = B [58] from rfl, B_append, ← B_of t, B_append, B_of]
  simp [List.append_assoc]
set_option maxHeartbeats 1000000 in
theorem rbody_any (k : Int) (A : Option Addr) (cap : Nat) (xs : List Int) (t : ByteArray) (hR : Hid (frRight (k, xs, t.data.toList))) (w0 w : World) (hr : Rel w0 w) (hx : Hid (IntsAt w A xs)) :
    Calls Tryd.prog 24 #[.agg #[.int .i64 k, .slice A xs.length cap, .string t]] w fun e w' => e = .returned (.string (B (frBody (k, xs, t.data.toList)))) ∧ Rel w0 w' := by
  obtain ⟨r1, r2, r3, r4, r5⟩ := hR.out
  simp only at r1 r2 r3 r5
  have r6 : t.size ≤ 2000 := by simpa using r5
  have R4 := Lib.hid r4
  clear r4 r5
  have hr1 := Lib.hid (hr.alloc (.cells #[.int .i64 k, .slice A xs.length cap, .string t] 24))
  have hs1 := Lib.hid (hr1.out.self)
  have hx1 := Lib.hid (hx.out.alloc (.cells #[.int .i64 k, .slice A xs.length cap, .string t] 24))
  have z0 := num_len k (by omega) (by omega)
  go_enter Tryd.func24, Tryd.ntmps24
  go_wp2_with (go_at_call 33; (with_reducible refine (rnum_any k (by omega) (by omega) _ _ hs1.out).mono ?_); rintro e wn ⟨rfl, hn⟩)
  go_loopw [3, 4] (fun s i wr => ∃ (j : Nat) (S : ByteArray), j ≤ xs.length ∧ i = .int .i64 j ∧ s = .string S ∧ S.size ≤ 21 + 22 * j ∧ Hid (S = B (itoa k ++ frNums (xs.take j))) ∧ Rel (w.alloc (.cells #[.int .i64 k, .slice A xs.length cap, .string t] 24)) wr) (fun _ i _ => xs.length - (intOf i).toNat)
  case atStart => exact ⟨0, _, by omega, rfl, rfl, z0, Lib.hid (by simp [frNums, num]), hn⟩
  case round =>
    obtain ⟨j, S, hj, rfl, rfl, hS, HS, hR2⟩ := hrel
    obtain ⟨q0, q1, q2⟩ := box3 hR2
    by_cases hlt : j < xs.length
    · obtain ⟨a, rfl, hb, hc⟩ := (hx1.out.rel hR2) j hlt
      have hv := R4.out xs[j] (List.getElem_mem hlt)
      have HM := Lib.hid (body_more k xs j hlt)
      obtain ⟨x, hX⟩ : ∃ x, xs[j] = x := ⟨_, rfl⟩
      rw [hX] at hc hv
      have HX := Lib.hid hX
      obtain ⟨v0, v1⟩ := hv
      have z1 := num_len x (by omega) (by omega)
      clear hX
      go_wp2_with (go_at_call 33; (with_reducible refine (rnum_any x (by omega) (by omega) _ _ hR2).mono ?_); rintro e wn ⟨rfl, hn⟩)
      go_roundw
      case rel => exact ⟨j + 1, _, by omega, by go_num, rfl, by (have h32 : (⟨#[32]⟩ : ByteArray).size = 1 := rfl); rw [ByteArray.size_append, ByteArray.size_append]; omega, Lib.hid (by rw [← HM.out, HS.out, HX.out]), hn⟩
      case measure => simp [intOf]; omega
    · obtain rfl : j = xs.length := by omega
      go_wp2_with (fail)
      go_ret
      exact ⟨ret_str (by rw [← body_last, HS.out, List.take_length]), hr1.out.trans hR2⟩
theorem enc_head (r : Int × List Int × List UInt8) : B (tw (frBody r).length) ++ B (frBody r) = B (frHead r) := B_append _ _
theorem enc_all (r : Int × List Int × List UInt8) : B (frHead r) ++ B (tw (crc (frHead r) 65535)) = B (frEnc r) := B_append _ _
/-- What Encode tells: of a record that may be its frame, else nothing. -/
noncomputable def encT (k : Int) (xs : List Int) (t : ByteArray) : ByteArray := if rtB k xs t = true then B (frEnc (k, xs, t.data.toList)) else B []
def encE (k : Int) (xs : List Int) (t : ByteArray) : Int := if rtB k xs t = true then 0 else 1
/-- A text and a number together. -/
def StrInt (e : Ending) (s : ByteArray) (n : Int) : Prop := e = .returned (.tuple #[.string s, .int .i64 n])
set_option maxHeartbeats 1000000 in
theorem renc_any (k : Int) (A : Option Addr) (cap : Nat) (xs : List Int) (t : ByteArray) (hl : xs.length ≤ 9223372036854775807) (ht : t.size ≤ 9223372036854775807) (w0 w : World) (hr : Rel w0 w) (hx : Hid (IntsAt w A xs)) :
    Calls Tryd.prog 12 #[.agg #[.int .i64 k, .slice A xs.length cap, .string t]] w fun e w' => StrInt e (encT k xs t) (encE k xs t) ∧ Rel w0 w' := by
  have hr1 := Lib.hid (hr.alloc (.cells #[.int .i64 k, .slice A xs.length cap, .string t] 24))
  have hs1 := Lib.hid (hr1.out.self)
  have hx1 := Lib.hid (hx.out.alloc (.cells #[.int .i64 k, .slice A xs.length cap, .string t] 24))
  cases hb : rtB k xs t
  · go_enter Tryd.func12, Tryd.ntmps12
    go_wp2_with (go_at_call 14; (with_reducible refine (rright_any k A cap xs t hl ht _ _ hs1.out hx1).mono ?_); rintro e wn ⟨rfl, hn⟩)
    go_ret2
    exact ⟨by unfold encT encE; rw [hb]; rfl, hr1.out.trans hn⟩
  · have hR := Lib.hid (rtB_iff.1 hb)
    have hL := (frBody_len hR.out).1
    obtain ⟨Bd, hBd⟩ : ∃ S, B (frBody (k, xs, t.data.toList)) = S := ⟨_, rfl⟩
    have zb : Bd.size ≤ 2462 := by rw [← hBd, B_size]; exact hL
    have n1 : Bd.size = (frBody (k, xs, t.data.toList)).length := by rw [← hBd, B_size]
    obtain ⟨H, hH⟩ : ∃ S, B (frHead (k, xs, t.data.toList)) = S := ⟨_, rfl⟩
    have HE := Lib.hid (show B (tw Bd.size) ++ Bd = H by rw [n1, ← hBd, enc_head, hH])
    have zh : (B (tw Bd.size) ++ Bd).size ≤ 2464 := by rw [ByteArray.size_append, B_size, tw_len]; omega
    have HB := Lib.hid hBd
    have HC := Lib.hid (show ((crc (B (tw Bd.size) ++ Bd).data.toList 65535 : Nat) : Int) = (crc (frHead (k, xs, t.data.toList)) 65535 : Nat) by rw [HE.out, ← hH, B_list])
    have hm := crc_bd (frHead (k, xs, t.data.toList)) (n := 65535) (by omega)
    have HF := Lib.hid (show B (tw Bd.size) ++ Bd ++ B (tw (crc (frHead (k, xs, t.data.toList)) 65535)) = B (frEnc (k, xs, t.data.toList)) by rw [HE.out, ← hH, enc_all])
    have z2 : (B (tw (crc (frHead (k, xs, t.data.toList)) 65535))).size = 2 := rfl
    have z3 : (B (tw Bd.size)).size = 2 := rfl
    have z4 : (B (tw Bd.size)).size ≤ 2 := by omega
    have z5 : (B (tw (crc (frHead (k, xs, t.data.toList)) 65535))).size ≤ 2 := by omega
    clear z2 z3 hBd n1 hH hL
    go_enter Tryd.func12, Tryd.ntmps12
    go_wp2_with (first
      | (go_at_call 14; (with_reducible refine (rright_any k A cap xs t hl ht _ _ hs1.out hx1).mono ?_); rintro e wn ⟨rfl, hn⟩; obtain ⟨q0, q1, q2⟩ := box3 hn)
      | (go_at_call 24; (with_reducible refine (str_at Bd (rbody_any k A cap xs t hR _ _ hn (Lib.hid (hx1.out.rel hn))) HB).mono ?_); rintro e wo ⟨rfl, ho⟩)
      | (go_at_call 25; (with_reducible refine (rbytes_any _ (by omega) _ _ (by assumption)).mono ?_); rintro e wp ⟨rfl, hp⟩)
      | (go_at_call 26; (with_reducible refine (int_at _ (rof_any _ (by omega) _) HC).mono ?_); rintro e w' ⟨rfl, rfl⟩))
    go_ret2
    exact ⟨by unfold encT encE; rw [hb, HF.out]; rfl, hr1.out.trans (by assumption)⟩
end Go.Proofs.YtjbbfcomgglhiaaDoor
