/- What is scanned: the document's own. -/
import Derived.Test.YtjbbfcomgglhiaaDoorRecRecord
import Derived.Test.YtjbbfcomgglhiaaDoorRecOwn
import Derived.Test.YtjbbfcomgglhiaaDoorScanMath
import Derived.Deep.Cut
namespace Go.Proofs.YtjbbfcomgglhiaaDoor
open Go.RowKit Go.Lib
set_option linter.unusedVariables false
set_option linter.unusedSimpArgs false

def recOf (es : List ((Int × List Int × ByteArray) × Option Addr × Nat)) : List (Int × List Int × List UInt8) := es.map fun e => pure3 e.1
theorem ln_at (s : ByteArray) (p : Nat) (h : p + 1 < s.size) : (frLn (s.data.toList.drop p) : Int) = (s[p].toNat : Int) * 256 + (s[p + 1].toNat : Int) := by
  have el : s.data.toList.length = s.size := by simp
  rw [List.drop_eq_getElem_cons (show p < s.data.toList.length by omega), List.drop_eq_getElem_cons (show p + 1 < s.data.toList.length by omega)]
  show (((s.data.toList[p]).toNat * 256 + (s.data.toList[p + 1]).toNat : Nat) : Int) = _
  have a : s.data.toList[p]'(by omega) = s[p] := rfl
  have b : s.data.toList[p + 1]'(by omega) = s[p + 1] := rfl
  rw [a, b]; omega
theorem ext_list (s : ByteArray) (p i n : Nat) : (s.extract (p + i) (p + (i + n))).data.toList = ((s.data.toList.drop p).drop i).take n := by
  rw [tok_list, List.drop_drop, show p + (i + n) - (p + i) = n by omega]
/-- How far a scan is. -/
def ScanAt (l : List UInt8) (p : Nat) (es : List ((Int × List Int × ByteArray) × Option Addr × Nat)) : Prop :=
  frScan l = (recOf es ++ (frScan (l.drop p)).1, p + (frScan (l.drop p)).2.1, (frScan (l.drop p)).2.2)
theorem ScanAt.start (l : List UInt8) : ScanAt l 0 [] := by
  unfold ScanAt recOf
  rw [List.drop_zero, Nat.zero_add]; rfl
theorem ScanAt.done {l : List UInt8} {p : Nat} {es : List ((Int × List Int × ByteArray) × Option Addr × Nat)} {b : Bool} (h : ScanAt l p es) (hd : frScan (l.drop p) = ([], 0, b)) : frScan l = (recOf es, p, b) := by
  unfold ScanAt at h
  rw [hd] at h
  rw [h]; simp
theorem ScanAt.more {l : List UInt8} {p : Nat} {es : List ((Int × List Int × ByteArray) × Option Addr × Nat)} {e : (Int × List Int × ByteArray) × Option Addr × Nat} (h : ScanAt l p es) (hl : ¬ (l.drop p).length < frLn (l.drop p) + 4)
    (hg : frGood ((l.drop p).take (frLn (l.drop p) + 4)) = some (pure3 e.1)) : ScanAt l (p + frLn (l.drop p) + 4) (es ++ [e]) := by
  unfold ScanAt at h ⊢
  rw [frScan_good hl hg, List.drop_drop, ← Nat.add_assoc] at h
  rw [h]
  simp [recOf, Nat.add_assoc]
/-- What Scan tells of a text. -/
def ScanPost (s : ByteArray) (w0 : World) (e : Ending) (w' : World) : Prop :=
  ∃ (es : List ((Int × List Int × ByteArray) × Option Addr × Nat)) (A : Option Addr) (c n base : Nat) (err : Int), e = .returned (.tuple #[.slice A es.length c, .int .i64 n, .int .i64 err]) ∧ Rel w0 w' ∧ ElsOwn w' base (.slice A es.length c) es ∧
    ((err = 0 ∧ frScan s.data.toList = (recOf es, n, true)) ∨ (err = 40 ∧ frScan s.data.toList = (recOf es, n, false)))
set_option maxRecDepth 100000 in
set_option maxHeartbeats 4000000 in
theorem rscan_any (s : ByteArray) (hs : s.size ≤ 2000000) (w0 w : World) (hr : Rel w0 w) :
    Calls Tryd.prog 18 #[.string s] w (ScanPost s w0) := by
  obtain ⟨i0, hi, hz0, hz1, hz2⟩ := info_parts rec_info
  have el : s.data.toList.length = s.size := by simp
  have EL := Lib.hid el
  have HR := Lib.hid hr
  have HW := Lib.hid hr.self
  clear el
  go_enter Tryd.func18, Tryd.ntmps18
  go_wp2
  go_loopw [5, 6] (fun v i wr => ∃ (p : Nat) (A : Option Addr) (c : Nat) (es : List ((Int × List Int × ByteArray) × Option Addr × Nat)), p ≤ s.size ∧ i = .int .i64 p ∧ v = .slice A es.length c ∧ es.length ≤ p ∧ Rel w wr ∧
      ElsOwn wr w.heap.size (.slice A es.length c) es ∧ Hid (ScanAt s.data.toList p es)) (fun _ i _ => s.size - (intOf i).toNat)
  case atStart => exact ⟨0, none, 0, [], by omega, rfl, rfl, by simp, HW.out, ElsOwn.nil _ _, Lib.hid (ScanAt.start _)⟩
  case round =>
    obtain ⟨p, A, c, es, hp, rfl, rfl, hes, hR2, hE, HS⟩ := hrel
    have hlen : (s.data.toList.drop p).length = s.size - p := by rw [List.length_drop, EL.out]
    by_cases h2 : s.size - p < 2
    · have hd := Lib.hid (HS.out.done (short_two (by omega)))
      have e1 : decide ((s.size : Int) - (p : Int) < 2) = true := decide_eq_true (by omega)
      clear hlen
      go_wp2_with (fail)
      go_ret3
      exact ⟨es, A, c, p, w.heap.size, 0, rfl, HR.out.trans hR2, hE, .inl ⟨rfl, hd.out⟩⟩
    · have hp1 : p + 1 < s.size := by omega
      obtain ⟨n, hn⟩ : ∃ n, frLn (s.data.toList.drop p) = n := ⟨_, rfl⟩
      have hln := ln_at s p hp1
      have hnb := ln_bd (s.data.toList.drop p)
      rw [hn] at hln hnb
      obtain ⟨x, hx⟩ : ∃ x, x = s[p]'(by omega) := ⟨_, rfl⟩
      obtain ⟨y, hy⟩ : ∃ x, x = s[p + 1]'hp1 := ⟨_, rfl⟩
      rw [← hx, ← hy] at hln
      have hgx : ∀ h, s[p]'h = x := fun h => hx.symm
      have hgy : ∀ h, s[p + 1]'h = y := fun h => hy.symm
      have b1 := u8_lt x
      have b2 := u8_lt y
      have HEQ := Lib.hid (And.intro (show IntKind.i64.wrap (x.toNat : Int) = (x.toNat : Int) by rw [IntKind.wrap_i64]; omega) (And.intro (show IntKind.i64.wrap (y.toNat : Int) = (y.toNat : Int) by rw [IntKind.wrap_i64]; omega)
        (And.intro (show IntKind.i64.wrap ((x.toNat : Int) * (256 : Int)) = (x.toNat : Int) * (256 : Int) by rw [IntKind.wrap_i64]; omega) (show IntKind.i64.wrap ((x.toNat : Int) * (256 : Int) + (y.toNat : Int)) = (n : Int) by rw [IntKind.wrap_i64]; omega))))
      have HPW := Lib.hid (show IntKind.i64.wrap ((p : Int) + 1) = (p : Int) + 1 by rw [IntKind.wrap_i64]; omega)
      have HN := Lib.hid hn
      have e1 : decide ((s.size : Int) - (p : Int) < 2) = false := decide_eq_false (by omega)
      clear hx hy hln b1 b2 hn
      have HLEN := Lib.hid hlen
      clear hlen
      by_cases h4 : s.size - p < n + 4
      · have hd := Lib.hid (HS.out.done (frScan_short (by rw [HLEN.out, HN.out]; exact h4)))
        have e2 : decide ((s.size : Int) - (p : Int) < (n : Int) + 4) = true := decide_eq_true (by omega)
        go_wp2_with (fail)
        obtain ⟨w0x, w1x, w2x, w3x⟩ := HEQ.out
        have wpx := HPW.out
        go_quiet (fail)
        clear w0x w1x w2x w3x wpx
        go_wp2_with (fail)
        go_ret3
        exact ⟨es, A, c, p, w.heap.size, 0, rfl, HR.out.trans (hR2.drewN _), hE.rel (hR2.self.drewN _), .inl ⟨rfl, hd.out⟩⟩
      · have e2 : decide ((s.size : Int) - (p : Int) < (n : Int) + 4) = false := decide_eq_false (by omega)
        have zb : (s.extract (p + 2) (p + 2 + n)).size ≤ 100000 := by rw [ByteArray.size_extract]; omega
        have hS2 := Lib.hid hR2.self
        go_wp2_with (fail)
        obtain ⟨w0x, w1x, w2x, w3x⟩ := HEQ.out
        have wpx := HPW.out
        go_quiet (fail)
        clear w0x w1x w2x w3x wpx
        go_upto_region 9 with ((go_at_call 28; (with_reducible refine (rrecord_any _ zb _ _ (hS2.out.drewN nq)).mono ?_); rintro e wn ⟨K, A', c', xs, tx, ok, rfl, hn, hown, hyes, hno⟩; have HYES := Lib.hid hyes; have HNO := Lib.hid hno; clear hyes hno))
        have hwr : Rel wr (wn.alloc (.cells #[.int .i64 K, .slice A' xs.length c', .string tx] 24)) := hn.alloc _
        have hB := Bk.new wn 24 #[.int .i64 K, .slice A' xs.length c', .string tx]
        have hE3 := hE.rel hwr
        have hown3 := own_rel hown (hn.self.alloc (.cells #[.int .i64 K, .slice A' xs.length c', .string tx] 24))
        have hsz : wr.heap.size ≤ wn.heap.size := hn.size
        have hsz0 := hR2.size
        obtain ⟨w3, hw3⟩ : ∃ w3, wn.alloc (.cells #[.int .i64 K, .slice A' xs.length c', .string tx] 24) = w3 := ⟨_, rfl⟩
        obtain ⟨gb, hgb⟩ : ∃ gb, wn.heap.size = gb := ⟨_, rfl⟩
        rw [hw3] at hwr hB hE3 hown3 ⊢
        rw [hgb] at hB ⊢
        have HGB := Lib.hid (show w.heap.size ≤ gb by omega)
        clear hw3 hgb hown hsz hsz0 hn
        have hS3 := Lib.hid hwr.self
        obtain ⟨m, hm⟩ : ∃ m, crc (s.extract p (p + 2 + n)).data.toList 65535 = m := ⟨_, rfl⟩
        have hmb : m < 65536 := by rw [← hm]; exact crc_bd _ (by omega)
        have HM := Lib.hid (show ((crc (s.extract p (p + 2 + n)).data.toList 65535 : Nat) : Int) = (m : Int) by rw [hm])
        have HM' := Lib.hid hm
        obtain ⟨C, hC⟩ : ∃ C, B (tw m) = C := ⟨_, rfl⟩
        have HC := Lib.hid hC
        have zh : (s.extract p (p + 2 + n)).size ≤ 100000 := by rw [ByteArray.size_extract]; omega
        clear hm hC
        have T1x := Lib.hid (show (s.extract p (p + (0 + (2 + n)))).data.toList = (s.data.toList.drop p).take (2 + n) from ext_list s p 0 (2 + n))
        have T2 := Lib.hid (ext_list s p 2 n)
        have T3 := Lib.hid (ext_list s p (2 + n) 2)
        cases ok
        · have hg := Lib.hid (HS.out.done (frScan_bad (by rw [HLEN.out, HN.out]; omega) (good_no (by rw [HLEN.out, HN.out]; omega) (.inl (by rw [HN.out]; have := HNO.out rfl; rw [show p + 2 + n = p + (2 + n) by omega, T2.out] at this; exact this)))))
          go_wp2_with (first
            | (go_at_call 26; (with_reducible refine (int_at _ (rof_any _ (by omega) _) HM).mono ?_); rintro e w' ⟨rfl, rfl⟩)
            | (go_at_call 25; (with_reducible refine (str_at _ (rbytes_any m hmb _ _ hS3.out) HC).mono ?_); rintro e wq ⟨rfl, hq⟩))
          go_ret3
          exact ⟨es, A, c, p, w.heap.size, 40, rfl, HR.out.trans (hR2.trans (hwr.trans hq)), hE3.rel hq, .inr ⟨rfl, hg.out⟩⟩
        · have hb2 := HYES.out rfl
          by_cases hq2 : C = s.extract (p + 2 + n) (p + 4 + n)
          · have k1 := list_of.2 (congrArg (fun z => z.data.toList) hq2)
            have k2 : (C.toList != (s.extract (p + 2 + n) (p + 4 + n)).toList) = false := by unfold bne; rw [k1]; rfl
            have hg := Lib.hid (HS.out.more (e := ((K, xs, tx), A', c')) (by rw [HLEN.out, HN.out]; omega) (good_yes (by rw [HLEN.out, HN.out]; omega) hb2.1 (by rw [HN.out, hb2.2, show p + 2 + n = p + (2 + n) by omega, T2.out]) (by
              rw [HN.out, ← T3.out, show p + (2 + n + 2) = p + 4 + n by omega, show p + (2 + n) = p + 2 + n by omega, ← hq2, ← HC.out, B_list, ← HM'.out, show p + 2 + n = p + (0 + (2 + n)) by omega, T1x.out])))
            have hM := Lib.hid hb2
            clear hb2 hq2
            go_wp2_with (first
              | (go_at_call 26; (with_reducible refine (int_at _ (rof_any _ (by omega) _) HM).mono ?_); rintro e w' ⟨rfl, rfl⟩)
              | (go_at_call 25; (with_reducible refine (str_at _ (rbytes_any m hmb _ _ hS3.out) HC).mono ?_); rintro e wq ⟨rfl, hq⟩; obtain ⟨⟨d0, d1, d2⟩, g0, g1, g2⟩ := (hB.rel hq).three; have hsz : w.heap.size ≤ wq.heap.size := (hR2.trans (hwr.trans hq)).size)
              | (at_builtin; (refine wpList_append_lies _ rfl _ _ 32 rfl w.heap.size 24 i0 (.agg #[.int .i64 0, .slice none 0 0, .string ⟨#[]⟩]) 3 48 Tryd.underlying32 hi hz0 hz1 hz2 rfl (by decide) _ es.length (cellsOf es) rfl ((hE3.rel hq).1.alloc _) ⟨wq.heap.size, 0, none⟩ 1 1 (cells3 ((K, xs, tx), A', c')) rfl rfl (World.news_of_block (Bk.new wq 24 #[.int .i64 K, .slice A' xs.length c', .string tx])) (cells3_one _) (by decide) (by unfold maxLen; omega) (by omega) (by simp; omega) _ rfl ?_); intro g cap w1 hown1 hgrow hat hlt1))
            have hE5 := ElsOwn.more ((hE3.rel hq).rel (hq.self.alloc (.cells #[.int .i64 K, .slice A' xs.length c', .string tx] 24))) (NumsOwn.of (own_rel (own_rel hown3 hq) (hq.self.alloc (.cells #[.int .i64 K, .slice A' xs.length c', .string tx] 24)))) hown1 hgrow
            have hR6 : Rel w w1 := ((hR2.trans (hwr.trans hq)).alloc _).grown hgrow (fun k hk => (hE3.1.lt k hk).1)
            have hl := show (es ++ [((K, xs, tx), A', c')]).length = es.length + 1 by simp
            have HL := Lib.hid hl
            clear hl
            go_roundw
            case rel => exact ⟨p + n + 4, some ⟨g, 0, none⟩, cap, es ++ [((K, xs, tx), A', c')], by omega, by go_num, by rw [HL.out], by rw [HL.out]; omega, hR6, by rw [HL.out]; exact hE5, Lib.hid (by have := hg.out; rw [HN.out] at this; exact this)⟩
            case measure => simp [intOf]; omega
          · have k1 : (C.toList == (s.extract (p + 2 + n) (p + 4 + n)).toList) = false := by
              cases h : (C.toList == (s.extract (p + 2 + n) (p + 4 + n)).toList)
              · rfl
              · exact absurd (by rw [← B_of C, list_of.1 h, B_of]) hq2
            have k2 : (C.toList != (s.extract (p + 2 + n) (p + 4 + n)).toList) = true := by unfold bne; rw [k1]; rfl
            have hg := Lib.hid (HS.out.done (frScan_bad (by rw [HLEN.out, HN.out]; omega) (good_no (by rw [HLEN.out, HN.out]; omega) (.inr (by
              rw [HN.out, ← T3.out, show p + (2 + n + 2) = p + 4 + n by omega, show p + (2 + n) = p + 2 + n by omega]
              intro e
              refine hq2 ?_
              rw [← B_of (s.extract (p + 2 + n) (p + 4 + n)), e, ← HC.out, ← HM'.out, show p + 2 + n = p + (0 + (2 + n)) by omega, T1x.out])))))
            clear hq2 hb2
            go_wp2_with (first
              | (go_at_call 26; (with_reducible refine (int_at _ (rof_any _ (by omega) _) HM).mono ?_); rintro e w' ⟨rfl, rfl⟩)
              | (go_at_call 25; (with_reducible refine (str_at _ (rbytes_any m hmb _ _ hS3.out) HC).mono ?_); rintro e wq ⟨rfl, hq⟩; obtain ⟨⟨d0, d1, d2⟩, g0, g1, g2⟩ := (hB.rel hq).three; have hsz : w.heap.size ≤ wq.heap.size := (hR2.trans (hwr.trans hq)).size))
            go_ret3
            exact ⟨es, A, c, p, w.heap.size, 40, rfl, HR.out.trans (hR2.trans (hwr.trans hq)), hE3.rel hq, .inr ⟨rfl, hg.out⟩⟩
end Go.Proofs.YtjbbfcomgglhiaaDoor
