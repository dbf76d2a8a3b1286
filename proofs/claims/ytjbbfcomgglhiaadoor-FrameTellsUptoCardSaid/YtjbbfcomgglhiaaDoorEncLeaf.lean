/- What the program's Right and Encode tell. -/
import Derived.Test.YtjbbfcomgglhiaaDoorBuildLeaf
import Derived.Deep.Cut
namespace Go.Proofs.YtjbbfcomgglhiaaDoor
open Go.RowKit
open Go.Lib hiding intOf
set_option linter.unusedVariables false
set_option linter.unusedSimpArgs false

set_option maxHeartbeats 1000000 in
theorem right_any (k : Int) (A : Option Addr) (cap : Nat) (xs : List Int) (t : ByteArray) (hl : xs.length ≤ 9223372036854775807) (ht : t.size ≤ 9223372036854775807) (w0 w : World) (hr : Rel w0 w) (hx : Hid (IntsAt w A xs)) :
    Calls Tryd.prog 13 #[.agg #[.int .i64 k, .slice A xs.length cap, .string t]] w fun e w' => e = .returned (.bool (rtB k xs t)) ∧ Rel w0 w' := by
  have hr1 := Lib.hid (hr.alloc (.cells #[.int .i64 k, .slice A xs.length cap, .string t] 24))
  by_cases c1 : 1 ≤ k
  · by_cases c2 : k ≤ 255
    · by_cases c3 : xs.length ≤ 20
      · by_cases c4 : t.size ≤ 2000
        · go_enter Tryd.func13, Tryd.ntmps13
          go_wp2_with (fail)
          go_loop [28] (fun i => ∃ j : Nat, j ≤ xs.length ∧ i = .int .i64 j ∧ Hid ((xs.take j).all okInt = true)) (fun i => xs.length - (intOf i).toNat)
          case atStart => exact ⟨0, by omega, rfl, Lib.hid rfl⟩
          case round =>
            obtain ⟨j, hj, rfl, HJ⟩ := hrel
            by_cases hlt : j < xs.length
            · obtain ⟨a, rfl, hb, hc⟩ := hx.out j hlt
              have hc1 : (w.alloc (.cells #[.int .i64 k, .slice (some a) xs.length cap, .string t] 24)).cell? (a.add j) = some (.int .i64 xs[j]) :=
                (World.cell?_alloc_lt w _ _ (by rw [block_add]; exact hb)).trans hc
              obtain ⟨x, hX⟩ : ∃ x, xs[j] = x := ⟨_, rfl⟩
              rw [hX] at hc1
              have HX := Lib.hid hX
              clear hX hc
              have hs := Lib.hid (all_snoc xs j hlt)
              by_cases b1 : -1125899906842624 ≤ x
              · by_cases b2 : x ≤ 1125899906842624
                · go_wp2_with (fail)
                  go_round
                  case rel => exact ⟨j + 1, by omega, by go_num, Lib.hid (by rw [hs.out, HJ.out, HX.out]; simp [okInt, b1, b2])⟩
                  case measure => simp [intOf]; omega
                · go_wp2_with (fail)
                  go_ret
                  exact ⟨ret_bool (by rw [rtB_no (.inl (all_no xs j hlt (by rw [HX.out]; simp [okInt]; omega)))]), hr1.out⟩
              · go_wp2_with (fail)
                go_ret
                exact ⟨ret_bool (by rw [rtB_no (.inl (all_no xs j hlt (by rw [HX.out]; simp [okInt]; omega)))]), hr1.out⟩
            · obtain rfl : j = xs.length := by omega
              have HA := Lib.hid (show xs.all okInt = true by have := HJ.out; rwa [List.take_length] at this)
              go_wp2_with (fail)
              go_ret
              exact ⟨ret_bool (by rw [rtB_yes HA.out c1 c2 c3 c4]), hr1.out⟩
        · go_enter Tryd.func13, Tryd.ntmps13
          go_wp2_with (fail)
          go_ret
          exact ⟨ret_bool (by rw [rtB_no (.inr (.inr (.inr (.inr (by omega)))))]), hr1.out⟩
      · go_enter Tryd.func13, Tryd.ntmps13
        go_wp2_with (fail)
        go_ret
        exact ⟨ret_bool (by rw [rtB_no (.inr (.inr (.inr (.inl (by omega)))))]), hr1.out⟩
    · go_enter Tryd.func13, Tryd.ntmps13
      go_wp2_with (fail)
      go_ret
      exact ⟨ret_bool (by rw [rtB_no (.inr (.inr (.inl (by omega))))]), hr1.out⟩
  · go_enter Tryd.func13, Tryd.ntmps13
    go_wp2_with (fail)
    go_ret
    exact ⟨ret_bool (by rw [rtB_no (.inr (.inl (by omega)))]), hr1.out⟩

theorem bld_rel {T e : TypeId} {C b : Nat} {bs : List Value} {w w' : World} (h : Lib.IsBuilderF T e C b bs w) (hr : Rel w w') : Lib.IsBuilderF T e C b bs w' := by
  have one : ∀ {p : Value}, Lib.BuilderAtF T e C b p bs w → Lib.BuilderAtF T e C b p bs w' := by
    rintro p ⟨hB, v, hb, hown, hne⟩
    have hlt : b < w.heap.size := (Array.getElem?_eq_some_iff.1 hb).1
    exact ⟨hB, v, (hr.2.block b hlt).trans hb, hown.kept (row := none) ⟨hr.2.os, hr.2.tape, hr.2.output, hr.2.size, fun k hk _ => hr.2.block k hk⟩ (by cases v.ownBlock <;> simp), hne⟩
  exact h.elim (fun x => .inl (one x)) (fun x => .inr (one x))
theorem bcells_str (l : List UInt8) (s : ByteArray) : Lib.byteCells l ++ Lib.strCells s = Lib.byteCells (l ++ s.data.toList) := by rw [Lib.strCells_eq, ← Lib.byteCells_append]
/-- A writing onto a builder of the call's own. -/
theorem write_any (C : Nat) (l : List UInt8) (s : ByteArray) (w0 w : World) (h : Hid (Lib.IsBuilderF 59 5 C C (Lib.byteCells l) w)) (hl : l.length + s.size ≤ 1000000000) (hr : Rel w0 w) (hC : w0.heap.size = C) :
    Calls Tryd.prog 29 #[.pointer (some ⟨C, 0, none⟩), .string s] w fun e w' => e = .returned (.tuple #[.int .i64 s.size, .nilIface]) ∧ Hid (Lib.IsBuilderF 59 5 C C (Lib.byteCells (l ++ s.data.toList)) w') ∧ Rel w0 w' := by
  subst hC
  refine (put_any w0.heap.size w0.heap.size _ s w h.out (by rw [Lib.byteCells_length]; omega) hr.2.size).mono ?_
  rintro e w' ⟨rfl, h1, h2⟩
  rw [bcells_str] at h1
  exact ⟨rfl, Lib.hid h1, ⟨hr.1, hr.2.trans h2⟩⟩
theorem told_any (C : Nat) (l : List UInt8) (s : ByteArray) (w0 w : World) (h : Hid (Lib.IsBuilderF 59 5 C C (Lib.byteCells l) w)) (hs : Hid (B l = s)) (hr : Rel w0 w) (hC : w0.heap.size = C) :
    Calls Tryd.prog 31 #[.pointer (some ⟨C, 0, none⟩)] w fun e w' => e = .returned (.string s) ∧ Rel w0 w' := by
  subst hC
  refine (Tryd.Builder_String_any_k w0.heap.size w0.heap.size l w h.out hr.2.size).mono ?_
  rintro e w' ⟨rfl, h1, h2, _⟩
  exact ⟨by rw [← hs.out]; rfl, ⟨hr.1, hr.2.trans h2⟩⟩
theorem num_list (x : Int) : (num x).data.toList = itoa x := B_list _
theorem more_list (l : List UInt8) (k : Int) (xs : List Int) (j : Nat) (h : j < xs.length) (hl : l = itoa k ++ frNums (xs.take j)) :
    l ++ ((⟨#[32]⟩ : ByteArray) ++ num xs[j]).data.toList = itoa k ++ frNums (xs.take (j + 1)) := by
  rw [nums_snoc xs j h, hl, ByteArray.data_append]
  simp [num_list, List.append_assoc]
theorem last_list (l : List UInt8) (k : Int) (xs : List Int) (t : ByteArray) (hl : l = itoa k ++ frNums xs) :
    B (l ++ ((⟨#[58]⟩ : ByteArray) ++ t).data.toList) = B (frBody (k, xs, t.data.toList)) := by
  rw [hl, ByteArray.data_append]
  unfold frBody
  simp [List.append_assoc]
set_option maxHeartbeats 1000000 in
theorem body_any (k : Int) (A : Option Addr) (cap : Nat) (xs : List Int) (t : ByteArray) (hR : Hid (frRight (k, xs, t.data.toList))) (w0 w : World) (hr : Rel w0 w) (hx : Hid (IntsAt w A xs)) :
    Calls Tryd.prog 21 #[.agg #[.int .i64 k, .slice A xs.length cap, .string t]] w fun e w' => e = .returned (.string (B (frBody (k, xs, t.data.toList)))) ∧ Rel w0 w' := by
  obtain ⟨r1, r2, r3, r4, r5⟩ := hR.out
  simp only at r1 r2 r3 r5
  have r6 : t.size ≤ 2000 := by simpa using r5
  have R4 := Lib.hid r4
  clear r4 r5
  have z0 := num_len k (by omega) (by omega)
  have HA := Lib.hid hr
  go_enter Tryd.func21, Tryd.ntmps21
  go_upto_region 2 with (fail)
  obtain ⟨w1, hw1⟩ : ∃ w1, w1 = w.alloc (.cells #[.int .i64 k, .slice A xs.length cap, .string t] 24) := ⟨_, rfl⟩
  have hsz : w1.heap.size = w.heap.size + 1 := by rw [hw1]; simp
  have hr1 : Rel w w1 := by rw [hw1]; exact hr.self.alloc _
  have hK : Bk w1 w.heap.size 24 #[.int .i64 k, .slice A xs.length cap, .string t] := by rw [hw1]; exact Bk.new _ _ _
  have hF := Lib.fresh_isBuilder 59 5 w1
  have hr2 := hr1.self.alloc (.cells #[.pointer none, .slice none 0 0] 59)
  rw [hsz] at hF
  rw [← hw1]
  obtain ⟨w2, hw2⟩ : ∃ w2, w1.alloc (.cells #[.pointer none, .slice none 0 0] 59) = w2 := ⟨_, rfl⟩
  rw [hw2] at hF hr2 ⊢
  clear hw1 hw2
  have HF : Hid (Lib.IsBuilderF 59 5 (w.heap.size + 1) (w.heap.size + 1) (Lib.byteCells []) w2) := Lib.hid (Lib.IsBuilderF.of hF)
  have z1 : ([] : List UInt8).length + (num k).size ≤ 1000000000 := by rw [List.length_nil]; omega
  have HS := Lib.hid hr2.self
  have HK := Lib.hid hK
  have HR1 := Lib.hid hr1
  have hx1 := Lib.hid (hx.out.rel (hr1.trans hr2))
  obtain ⟨⟨d0, d1, d2⟩, _⟩ := (hK.rel hr2).three
  clear hF hK hr1
  go_loud (go_upto_region 3 with (first
    | (go_at_call 30; (with_reducible refine (num_any k (by omega) (by omega) _ _ HS.out).mono ?_); rintro e wn ⟨rfl, hn⟩)
    | (go_at_call 29; (with_reducible refine (write_any (w.heap.size + 1) [] (num k) w1 _ (Lib.hid (bld_rel HF.out hn)) z1 (hr2.trans hn) hsz).mono ?_); rintro e w3 ⟨rfl, h3, hr3⟩)))
  obtain ⟨⟨c0, c1, c2⟩, _⟩ := (HK.out.rel hr3).three
  have HR3 := Lib.hid hr3
  go_wp2_with (fail)
  go_loopw [13] (fun i wr => ∃ (j : Nat) (l : List UInt8), j ≤ xs.length ∧ i = .int .i64 j ∧ l.length ≤ 21 + 22 * j ∧ Hid (l = itoa k ++ frNums (xs.take j)) ∧ Hid (Lib.IsBuilderF 59 5 (w.heap.size + 1) (w.heap.size + 1) (Lib.byteCells l) wr) ∧ Rel w1 wr) (fun i _ => xs.length - (intOf i).toNat)
  case atStart => exact ⟨0, _, by omega, rfl, by simp [num_list] at z0 ⊢; unfold num at z0; rw [B_size] at z0; omega, Lib.hid (by simp [frNums, num_list]), h3, HR3.out⟩
  case round =>
    obtain ⟨j, l, hj, rfl, hll, HL, HB, hR2⟩ := hrel
    by_cases hlt : j < xs.length
    · obtain ⟨a, rfl, hb, hc⟩ := (hx.out.rel (HR1.out.trans hR2)) j hlt
      have hv := R4.out xs[j] (List.getElem_mem hlt)
      have HM := Lib.hid (more_list l k xs j hlt HL.out)
      obtain ⟨x, hX⟩ : ∃ x, xs[j] = x := ⟨_, rfl⟩
      rw [hX] at hc hv
      have HX := Lib.hid hX
      obtain ⟨v0, v1⟩ := hv
      have z1 := num_len x (by omega) (by omega)
      have z2 : ((⟨#[32]⟩ : ByteArray) ++ num x).size ≤ 22 := by rw [ByteArray.size_append]; show 1 + _ ≤ _; omega
      have hs2 := Lib.hid hR2.self
      clear hX
      go_wp2_with (first
        | (go_at_call 30; (with_reducible refine (num_any x (by omega) (by omega) _ _ hs2.out).mono ?_); rintro e wn ⟨rfl, hn⟩)
        | (go_at_call 29; (with_reducible refine (write_any _ l _ w1 _ (Lib.hid (bld_rel HB.out hn)) (by omega) (hR2.trans hn) hsz).mono ?_); rintro e w4 ⟨rfl, h4, hr4⟩))
      go_roundw
      case rel => exact ⟨j + 1, _, by omega, by go_num, by rw [List.length_append]; simp only [Array.length_toList]; have : ((⟨#[32]⟩ : ByteArray) ++ num x).data.size = ((⟨#[32]⟩ : ByteArray) ++ num x).size := rfl; omega, Lib.hid (by rw [← HM.out, HX.out]), h4, hr4⟩
      case measure => simp [intOf]; omega
    · obtain rfl : j = xs.length := by omega
      obtain ⟨⟨q0, q1, q2⟩, _⟩ := (HK.out.rel hR2).three
      have HT := Lib.hid (last_list l k xs t (by have := HL.out; rwa [List.take_length] at this))
      have z2 : ((⟨#[58]⟩ : ByteArray) ++ t).size ≤ 2001 := by rw [ByteArray.size_append]; show 1 + _ ≤ _; omega
      go_wp2_with (first
        | (go_at_call 29; (with_reducible refine (write_any _ l _ w1 _ HB (by omega) hR2 hsz).mono ?_); rintro e w4 ⟨rfl, h4, hr4⟩)
        | (go_at_call 31; (with_reducible refine (told_any _ _ _ w1 _ h4 HT hr4 hsz).mono ?_); rintro e w5 ⟨rfl, hr5⟩))
      go_ret
      exact ⟨rfl, HA.out.trans (HR1.out.trans hr5)⟩

set_option maxHeartbeats 1000000 in
theorem enc_any (k : Int) (A : Option Addr) (cap : Nat) (xs : List Int) (t : ByteArray) (hl : xs.length ≤ 9223372036854775807) (ht : t.size ≤ 9223372036854775807) (w0 w : World) (hr : Rel w0 w) (hx : Hid (IntsAt w A xs)) :
    Calls Tryd.prog 11 #[.agg #[.int .i64 k, .slice A xs.length cap, .string t]] w fun e w' => StrInt e (encT k xs t) (encE k xs t) ∧ Rel w0 w' := by
  have hr1 := Lib.hid (hr.alloc (.cells #[.int .i64 k, .slice A xs.length cap, .string t] 24))
  have hs1 := Lib.hid (hr1.out.self)
  have hx1 := Lib.hid (hx.out.alloc (.cells #[.int .i64 k, .slice A xs.length cap, .string t] 24))
  cases hb : rtB k xs t
  · go_enter Tryd.func11, Tryd.ntmps11
    go_wp2_with (go_at_call 13; (with_reducible refine (right_any k A cap xs t hl ht _ _ hs1.out hx1).mono ?_); rintro e wn ⟨rfl, hn⟩)
    go_ret2
    exact ⟨by unfold encT encE; rw [hb]; rfl, hr1.out.trans hn⟩
  · have hR := Lib.hid (rtB_iff.1 hb)
    have hL := (frBody_len hR.out).1
    obtain ⟨Bd, hBd⟩ : ∃ S, B (frBody (k, xs, t.data.toList)) = S := ⟨_, rfl⟩
    have zb : Bd.size ≤ 2462 := by rw [← hBd, B_size]; exact hL
    have n1 : Bd.size = (frBody (k, xs, t.data.toList)).length := by rw [← hBd, B_size]
    obtain ⟨H, hH⟩ : ∃ S, B (frHead (k, xs, t.data.toList)) = S := ⟨_, rfl⟩
    have HE := Lib.hid (show B (tw Bd.size) ++ Bd = H by rw [n1, ← hBd, enc_head, hH])
    have zh : (B (tw Bd.size) ++ Bd).size ≤ 2464 := by rw [ByteArray.size_append, B_size, tw_len]; omega
    have HB := Lib.hid hBd
    have HC := Lib.hid (show ((crc (B (tw Bd.size) ++ Bd).data.toList 65535 : Nat) : Int) = (crc (frHead (k, xs, t.data.toList)) 65535 : Nat) by rw [HE.out, ← hH, B_list])
    have hm := crc_bd (frHead (k, xs, t.data.toList)) (n := 65535) (by omega)
    have HF := Lib.hid (show B (tw Bd.size) ++ Bd ++ B (tw (crc (frHead (k, xs, t.data.toList)) 65535)) = B (frEnc (k, xs, t.data.toList)) by rw [HE.out, ← hH, enc_all])
    have z2 : (B (tw (crc (frHead (k, xs, t.data.toList)) 65535))).size = 2 := rfl
    have z3 : (B (tw Bd.size)).size = 2 := rfl
    have z4 : (B (tw Bd.size)).size ≤ 2 := by omega
    have z5 : (B (tw (crc (frHead (k, xs, t.data.toList)) 65535))).size ≤ 2 := by omega
    clear z2 z3 hBd n1 hH hL
    go_enter Tryd.func11, Tryd.ntmps11
    go_wp2_with (first
      | (go_at_call 13; (with_reducible refine (right_any k A cap xs t hl ht _ _ hs1.out hx1).mono ?_); rintro e wn ⟨rfl, hn⟩; obtain ⟨q0, q1, q2⟩ := box3 hn)
      | (go_at_call 21; (with_reducible refine (str_at Bd (body_any k A cap xs t hR _ _ hn (Lib.hid (hx1.out.rel hn))) HB).mono ?_); rintro e wo ⟨rfl, ho⟩)
      | (go_at_call 22; (with_reducible refine (bytes_any _ (by omega) _ _ (by assumption)).mono ?_); rintro e wp ⟨rfl, hp⟩)
      | (go_at_call 23; (with_reducible refine (int_at _ (of_any _ (by omega) _) HC).mono ?_); rintro e w' ⟨rfl, rfl⟩))
    go_ret2
    exact ⟨by unfold encT encE; rw [hb, HF.out]; rfl, hr1.out.trans (by assumption)⟩
end Go.Proofs.YtjbbfcomgglhiaaDoor
