/- A record of a body: the document's own reading. -/
import Derived.Test.YtjbbfcomgglhiaaDoorRecBlk
import Derived.Test.YtjbbfcomgglhiaaDoorRecParse
namespace Go.Proofs.YtjbbfcomgglhiaaDoor
open Go.RowKit Go.Lib
set_option linter.unusedVariables false
set_option linter.unusedSimpArgs false

/-- What record tells of a body: the one right record of it, or that there is none. -/
def RecPost (b : ByteArray) (w0 : World) (e : Ending) (w' : World) : Prop :=
  ∃ (K : Int) (A : Option Addr) (c : Nat) (xs : List Int) (t : ByteArray) (ok : Bool), e = .returned (.tuple #[.agg #[.int .i64 K, .slice A xs.length c, .string t], .bool ok]) ∧ Rel w0 w' ∧ w'.ownsRow 0 3 1 (.slice A xs.length c) xs.length (xs.map (Value.int .i64)) ∧
    (ok = true → frRight (pure3 (K, xs, t)) ∧ frBody (pure3 (K, xs, t)) = b.data.toList) ∧ (ok = false → NoBody b.data.toList)
theorem tok_list (b : ByteArray) (i j : Nat) : (b.extract i j).data.toList = (b.data.toList.drop i).take (j - i) := by
  simp [ByteArray.data_extract, Array.toList_extract, List.extract]
theorem tok_more {l : List UInt8} {i j : Nat} (hi : i ≤ j) (hj : j < l.length) : (l.drop i).take (j + 1 - i) = (l.drop i).take (j - i) ++ [l[j]] := by
  rw [show j + 1 - i = (j - i) + 1 by omega, List.take_succ_eq_append_getElem (by rw [List.length_drop]; omega), List.getElem_drop]
  congr 2
  simp [show i + (j - i) = j by omega]
theorem tok_split {l : List UInt8} {i j : Nat} (hi : i ≤ j) (hj : j < l.length) : l.drop i = (l.drop i).take (j - i) ++ l[j] :: l.drop (j + 1) := by
  have h1 : (l.drop i).drop (j - i) = l[j] :: l.drop (j + 1) := by
    rw [List.drop_drop, show i + (j - i) = j by omega, List.drop_eq_getElem_cons hj]
  rw [← h1, List.take_append_drop]
theorem noSep_snoc {l : List UInt8} {c : UInt8} (h : noSep l) (h1 : c ≠ 32) (h2 : c ≠ 58) : noSep (l ++ [c]) := by
  intro d hd
  rcases List.mem_append.1 hd with hd | hd
  · exact h d hd
  · rw [List.mem_singleton.1 hd]; exact ⟨h1, h2⟩
theorem u8_eq {x c : UInt8} (h : (x.toNat : Int) = (c.toNat : Int)) : x = c := u8_inj (by omega)
theorem u8_is (x c : UInt8) (n : Int) (hn : (c.toNat : Int) = n) : (x = c → ((x.toNat : Int) == n) = true ∧ ((x.toNat : Int) != n) = false) ∧ (x ≠ c → ((x.toNat : Int) == n) = false ∧ ((x.toNat : Int) != n) = true) := by
  refine ⟨fun h => ?_, fun h => ?_⟩
  · have : (x.toNat : Int) = n := by rw [h]; exact hn
    exact ⟨by rw [beq_iff_eq]; exact this, by rw [bne_eq_false_iff_eq]; exact this⟩
  · have : (x.toNat : Int) ≠ n := fun e => h (u8_eq (by omega))
    exact ⟨by rw [beq_eq_false_iff_ne]; exact this, by rw [bne_iff_ne]; exact this⟩
theorem grown_facts {w wr wn w1 : World} {x0 x1 x2 y0 y1 y2 : Value} {A : Option Addr} {c g cap : Nat} {xs : List Int} {n : Int} (hR2 : Rel w wr) (hn : Rel wr wn)
    (hK0 : Bk wr w.heap.size 24 #[x0, x1, x2]) (hK1 : Bk wr (w.heap.size + 1) 24 #[y0, y1, y2]) (hown : wr.ownsRow (w.heap.size + 2) 3 1 (.slice A xs.length c) xs.length (xs.map (Value.int .i64)))
    (hown1 : w1.ownsRow (w.heap.size + 2) 3 1 (.slice (some ⟨g, 0, none⟩) (xs.length + 1) cap) (xs.length + 1) (xs.map (Value.int .i64) ++ [.int .i64 n]))
    (hgrow : (wn.alloc (.cells #[.int .i64 n] 3)).grownBy w1 (Value.slice A xs.length c).ownBlock) :
    Bk w1 w.heap.size 24 #[x0, x1, x2] ∧ Bk w1 (w.heap.size + 1) 24 #[y0, y1, y2] ∧ Rel w w1 ∧
      w1.ownsRow (w.heap.size + 2) 3 1 (.slice (some ⟨g, 0, none⟩) (xs ++ [n]).length cap) (xs ++ [n]).length ((xs ++ [n]).map (Value.int .i64)) := by
  have hn0 := own_ne (own_rel hown hn) (hK0.rel hn) (by decide)
  have hn1 := own_ne (own_rel hown hn) (hK1.rel hn) (by decide)
  refine ⟨((hK0.rel hn).alloc _).grown hgrow hn0, ((hK1.rel hn).alloc _).grown hgrow hn1, ((hR2.trans hn).alloc _).grown hgrow (fun k hk => by have := (hown.lt k hk).1; omega), ?_⟩
  rw [List.map_append, show (xs ++ [n]).length = xs.length + 1 by simp]
  exact hown1
theorem pure3_text (n : Int) (xs : List Int) (b : ByteArray) (j : Nat) : pure3 (n, xs, b.extract (j + 1) b.size) = (n, xs, b.data.toList.drop (j + 1)) := by
  have e : b.data.toList.length = b.size := by simp
  unfold pure3
  simp only
  rw [tok_list, List.take_of_length_le (by rw [List.length_drop]; omega)]
theorem body_no {K : Int} {xs : List Int} {t : ByteArray} {l : List UInt8} (h : frBody (pure3 (K, xs, t)) = l) (hb : rtB K xs t = false) : NoBody l := by
  intro r hr he
  have e := frBody_inj (he.trans h.symm)
  rw [e] at hr
  rw [rtB_iff.2 hr] at hb
  cases hb
theorem len_more (xs : List Int) (n : Int) : (xs ++ [n]).length = xs.length + 1 := by simp
theorem rright_len (k : Int) (A : Option Addr) (cap : Nat) (xs : List Int) (t : ByteArray) (m : Nat) (hm : xs.length = m) (hl : m ≤ 9223372036854775807) (ht : t.size ≤ 9223372036854775807) (w0 w : World) (hr : Rel w0 w) (hx : Hid (IntsAt w A xs)) :
    Calls Tryd.prog 14 #[.agg #[.int .i64 k, .slice A m cap, .string t]] w fun e w' => e = .returned (.bool (rtB k xs t)) ∧ Rel w0 w' := by
  subst hm
  exact rright_any k A cap xs t hl ht w0 w hr hx
theorem num_as (s : ByteArray) (hs : s.size ≤ 9223372036854775807) (n : Int) (ok : Bool) (hn : Hid (nuV s.data.toList = n ∧ nuB s.data.toList = ok)) (w0 w : World) (hr : Rel w0 w) :
    Calls Tryd.prog 36 #[.string s] w fun e w' => e = .returned (.tuple #[.int .i64 n, .bool ok]) ∧ Rel w0 w' := by
  have h := hn.out
  rw [← h.1, ← h.2]
  exact rnumber_any s hs w0 w hr
set_option maxRecDepth 100000 in
set_option maxHeartbeats 4000000 in
theorem rrecord_any (b : ByteArray) (hb : b.size ≤ 100000) (w0 w : World) (hr : Rel w0 w) :
    Calls Tryd.prog 28 #[.string b] w (RecPost b w0) := by
  obtain ⟨i0, hi, hz0, hz1, hz2⟩ := info_parts int_info
  have el : b.data.toList.length = b.size := by simp
  have EL := Lib.hid el
  have HR := Lib.hid hr
  have HW := Lib.hid hr.self
  clear el
  go_enter Tryd.func28, Tryd.ntmps28
  go_wp2
  go_loopw [5, 6] (fun f i wr => ∃ (j fr : Nat) (K : Int) (A : Option Addr) (c : Nat) (xs : List Int), j ≤ b.size ∧ i = .int .i64 j ∧ f = .int .i64 fr ∧ fr ≤ j ∧ xs.length ≤ j ∧ Rel w wr ∧
      Bk wr w.heap.size 24 #[.int .i64 0, .slice none 0 0, .string ⟨#[]⟩] ∧ Bk wr (w.heap.size + 1) 24 #[.int .i64 K, .slice A xs.length c, .string ⟨#[]⟩] ∧
      wr.ownsRow (w.heap.size + 2) 3 1 (.slice A xs.length c) xs.length (xs.map (Value.int .i64)) ∧ Hid (At b.data.toList (fr == 0) K xs (b.data.toList.drop fr) ∧ noSep ((b.data.toList.drop fr).take (j - fr)))) (fun _ i _ => b.size - (intOf i).toNat)
  case atStart =>
    refine ⟨0, 0, 0, none, 0, [], by omega, rfl, rfl, by omega, by simp, (HW.out.alloc _).alloc _, (Bk.new w _ _).alloc _, ?_, World.ownsRow_nil _ _ _ _, Lib.hid ⟨⟨rfl, rfl, rfl⟩, fun c hc => by cases hc⟩⟩
    have := Bk.new (w.alloc (.cells #[.int .i64 0, .slice none 0 0, .string ⟨#[]⟩] 24)) 24 #[.int .i64 0, .slice none 0 0, .string ⟨#[]⟩]
    rw [show (w.alloc (.cells #[.int .i64 0, .slice none 0 0, .string ⟨#[]⟩] 24)).heap.size = w.heap.size + 1 by simp] at this
    exact this
  case round =>
    obtain ⟨j, fr, K, A, c, xs, hj, rfl, rfl, hfr, hxl, hR2, hK0, hK1, hown, HA⟩ := hrel
    by_cases hlt : j < b.size
    · have hlt' : j < b.data.toList.length := by rw [EL.out]; exact hlt
      obtain ⟨x, hx⟩ : ∃ x, x = b[j]'hlt := ⟨_, rfl⟩
      have hg : ∀ h, b[j]'h = x := fun h => hx.symm
      have HX := Lib.hid (show b.data.toList[j] = x from hx.symm)
      have HT := Lib.hid (tok_more (l := b.data.toList) hfr hlt')
      clear hx
      obtain ⟨i32, n32⟩ := u8_is x 32 32 rfl
      obtain ⟨i58, n58⟩ := u8_is x 58 58 rfl
      have I32 := Lib.hid i32
      have N32 := Lib.hid n32
      have I58 := Lib.hid i58
      have N58 := Lib.hid n58
      clear i32 n32 i58 n58
      by_cases hs : x = 32 ∨ x = 58
      · obtain ⟨n, hn⟩ : ∃ n, nuV (b.extract fr j).data.toList = n := ⟨_, rfl⟩
        obtain ⟨ok, hok⟩ : ∃ n, nuB (b.extract fr j).data.toList = n := ⟨_, rfl⟩
        have HNB := Lib.hid (And.intro hn hok)
        have zt : (b.extract fr j).size ≤ 9223372036854775807 := by rw [ByteArray.size_extract]; omega
        have TS := Lib.hid (tok_split (l := b.data.toList) hfr hlt')
        have TL := Lib.hid (tok_list b fr j)
        have HS := Lib.hid hR2.self
        have zT : (b.extract (j + 1) b.size).size ≤ 9223372036854775807 := by rw [ByteArray.size_extract]; omega
        clear hn hok
        cases ok
        · have hN := HA.out.1
          rw [TS.out, HX.out] at hN
          have HN := Lib.hid (hN.bad HA.out.2 hs (by rw [← TL.out]; exact HNB.out.2))
          clear hN
          rcases hs with hs | hs
          · obtain ⟨a1, a2⟩ := I32.out hs
            obtain ⟨a3, a4⟩ := N58.out (by rw [hs]; decide)
            clear hs
            go_wp2_with (go_at_call 36; (with_reducible refine (num_as _ zt n false HNB _ _ HS.out).mono ?_); rintro e wn ⟨rfl, hn⟩; obtain ⟨⟨c0, c1, c2⟩, f0, f1, f2⟩ := (hK0.rel hn).three; obtain ⟨⟨d0, d1, d2⟩, g0, g1, g2⟩ := (hK1.rel hn).three)
            obtain ⟨⟨r0, r1, r2⟩, _⟩ := ((hK0.rel hn).put3 (.int .i64 K) (.slice A xs.length c) (.string ⟨#[]⟩)).three
            have hR3 : Rel w (((wn.setCell ⟨w.heap.size, 0, none⟩ (.int .i64 K)).setCell ⟨w.heap.size, 1, none⟩ (.slice A xs.length c)).setCell ⟨w.heap.size, 2, none⟩ (.string ⟨#[]⟩)) := (((hR2.trans hn).setCell (Nat.le_refl _) _).setCell (Nat.le_refl _) _).setCell (Nat.le_refl _) _
            have hI := own_zero (own_put3 (own_rel hown hn) (hK0.rel hn) (by decide) (.int .i64 K) (.slice A xs.length c) (.string ⟨#[]⟩))
            exact bodyPost_ret (v := .tuple #[.agg #[.int .i64 K, .slice A xs.length c, .string ⟨#[]⟩], .bool false]) (by simp [results, Tryd.results28, go_sem, r0, r1, r2]) rfl
              ⟨K, A, c, xs, _, false, rfl, HR.out.trans hR3, hI, (fun h => by cases h), fun _ => HN.out⟩
          · obtain ⟨a1, a2⟩ := N32.out (by rw [hs]; decide)
            obtain ⟨a3, a4⟩ := I58.out hs
            clear hs
            go_wp2_with (go_at_call 36; (with_reducible refine (num_as _ zt n false HNB _ _ HS.out).mono ?_); rintro e wn ⟨rfl, hn⟩; obtain ⟨⟨c0, c1, c2⟩, f0, f1, f2⟩ := (hK0.rel hn).three; obtain ⟨⟨d0, d1, d2⟩, g0, g1, g2⟩ := (hK1.rel hn).three)
            obtain ⟨⟨r0, r1, r2⟩, _⟩ := ((hK0.rel hn).put3 (.int .i64 K) (.slice A xs.length c) (.string ⟨#[]⟩)).three
            have hR3 : Rel w (((wn.setCell ⟨w.heap.size, 0, none⟩ (.int .i64 K)).setCell ⟨w.heap.size, 1, none⟩ (.slice A xs.length c)).setCell ⟨w.heap.size, 2, none⟩ (.string ⟨#[]⟩)) := (((hR2.trans hn).setCell (Nat.le_refl _) _).setCell (Nat.le_refl _) _).setCell (Nat.le_refl _) _
            have hI := own_zero (own_put3 (own_rel hown hn) (hK0.rel hn) (by decide) (.int .i64 K) (.slice A xs.length c) (.string ⟨#[]⟩))
            exact bodyPost_ret (v := .tuple #[.agg #[.int .i64 K, .slice A xs.length c, .string ⟨#[]⟩], .bool false]) (by simp [results, Tryd.results28, go_sem, r0, r1, r2]) rfl
              ⟨K, A, c, xs, _, false, rfl, HR.out.trans hR3, hI, (fun h => by cases h), fun _ => HN.out⟩
        · have hit := nuB_yes HNB.out.2
          rw [HNB.out.1, TL.out] at hit
          have HIT := Lib.hid hit.1
          have hA1 := HA.out.1
          rw [TS.out, HX.out] at hA1
          clear hit
          rcases hs with hs | hs
          · have HB := Lib.hid ((show At b.data.toList (fr == 0) K xs ((b.data.toList.drop fr).take (j - fr) ++ 32 :: b.data.toList.drop (j + 1)) by rw [← hs]; exact hA1).blank HIT.out)
            clear hA1
            obtain ⟨a1, a2⟩ := I32.out hs
            obtain ⟨a3, a4⟩ := N58.out (by rw [hs]; decide)
            clear hs
            by_cases h0 : fr = 0
            · have e0 : ((fr : Int) == 0) = true := by rw [beq_iff_eq]; omega
              have H0 := Lib.hid (show (fr == 0) = true by simp [h0])
              clear h0
              go_wp2_with (go_at_call 36; (with_reducible refine (num_as _ zt n true HNB _ _ HS.out).mono ?_); rintro e wn ⟨rfl, hn⟩; obtain ⟨⟨c0, c1, c2⟩, f0, f1, f2⟩ := (hK0.rel hn).three; obtain ⟨⟨d0, d1, d2⟩, g0, g1, g2⟩ := (hK1.rel hn).three)
              go_roundw
              case rel =>
                refine ⟨j + 1, j + 1, n, A, c, xs, by omega, by go_num, by go_num, by omega, by omega, (hR2.trans hn).setCell (by simp) _, (hK0.rel hn).far (by simp) _, (hK1.rel hn).set_ 0 _, own_set (own_rel hown hn) (own_ne (own_rel hown hn) (hK1.rel hn) (by decide)) _, Lib.hid ⟨?_, ?_⟩⟩
                · have := HB.out
                  rw [H0.out] at this
                  exact this
                · rw [Nat.sub_self]; intro d hd; cases hd
              case measure => simp [intOf]; omega
            · have e0 : ((fr : Int) == 0) = false := by rw [beq_eq_false_iff_ne]; omega
              have H0 := Lib.hid (show (fr == 0) = false by simp [h0])
              clear h0
              go_wp2_with (first
                | (go_at_call 36; (with_reducible refine (num_as _ zt n true HNB _ _ HS.out).mono ?_); rintro e wn ⟨rfl, hn⟩; obtain ⟨⟨c0, c1, c2⟩, f0, f1, f2⟩ := (hK0.rel hn).three; obtain ⟨⟨d0, d1, d2⟩, g0, g1, g2⟩ := (hK1.rel hn).three; have hsz : w.heap.size + 2 ≤ wn.heap.size := (hK1.rel hn).lt)
                | (at_builtin; (refine wpList_append_lies _ rfl _ _ 22 rfl (w.heap.size + 2) 3 i0 (.int .i64 0) 1 8 Tryd.underlying22 hi hz0 hz1 hz2 rfl (by decide) _ xs.length (xs.map (Value.int .i64)) rfl ((own_rel hown hn).alloc _) ⟨wn.heap.size, 0, none⟩ 1 1 [.int .i64 n] rfl rfl (cell_one_new wn (.int .i64 n) _) (one_cell n) (by decide) (by unfold maxLen; omega) (by omega) (by simp; omega) _ rfl ?_); intro g cap w1 hown1 hgrow hat hlt1; obtain ⟨K0, K1, R1, OW⟩ := grown_facts hR2 hn hK0 hK1 hown hown1 hgrow; obtain ⟨⟨d0, d1, d2⟩, g0, g1, g2⟩ := K1.three))
              go_roundw
              case rel =>
                refine ⟨j + 1, j + 1, K, some ⟨g, 0, none⟩, cap, xs ++ [n], by omega, by go_num, by go_num, by omega, by simp; omega, R1.setCell (by simp) _, K0.far (by simp) _, ?_, own_set OW (own_ne OW K1 (by decide)) _, Lib.hid ⟨?_, ?_⟩⟩
                · have := K1.set_ 1 (.slice (some ⟨g, 0, none⟩) (xs.length + 1) cap)
                  rw [show xs.length + 1 = (xs ++ [n]).length by simp] at this
                  simpa using this
                · have := HB.out
                  rw [H0.out] at this
                  exact this
                · rw [Nat.sub_self]; intro d hd; cases hd
              case measure => simp [intOf]; omega
          · have HB := Lib.hid ((show At b.data.toList (fr == 0) K xs ((b.data.toList.drop fr).take (j - fr) ++ 58 :: b.data.toList.drop (j + 1)) by rw [← hs]; exact hA1).colon HIT.out)
            clear hA1
            obtain ⟨a1, a2⟩ := N32.out (by rw [hs]; decide)
            obtain ⟨a3, a4⟩ := I58.out hs
            clear hs
            by_cases h0 : fr = 0
            · have e0 : ((fr : Int) == 0) = true := by rw [beq_iff_eq]; omega
              have HF := Lib.hid (show frBody (pure3 (n, xs, b.extract (j + 1) b.size)) = b.data.toList by
                have := HB.out
                rw [show (fr == 0) = true by simp [h0]] at this
                rw [pure3_text]; exact this.symm)
              clear h0
              go_wp2_with (first
                | (go_at_call 36; (with_reducible refine (num_as _ zt n true HNB _ _ HS.out).mono ?_); rintro e wn ⟨rfl, hn⟩; obtain ⟨⟨c0, c1, c2⟩, f0, f1, f2⟩ := (hK0.rel hn).three; obtain ⟨⟨d0, d1, d2⟩, g0, g1, g2⟩ := (hK1.rel hn).three; have hsz : w.heap.size + 2 ≤ wn.heap.size := (hK1.rel hn).lt)
                | (go_at_call 14; have B0 := ((hK0.rel hn).far (p := ⟨w.heap.size + 1, 0, none⟩) (by simp) (.int .i64 n)).far (p := ⟨w.heap.size + 1, 2, none⟩) (by simp) (.string (b.extract (j + 1) b.size)); have B1 := ((hK1.rel hn).set_ 0 (.int .i64 n)).set_ 2 (.string (b.extract (j + 1) b.size)); have OW := own_set (p := ⟨w.heap.size + 1, 2, none⟩) (own_set (p := ⟨w.heap.size + 1, 0, none⟩) (own_rel hown hn) (own_ne (own_rel hown hn) (hK1.rel hn) (by decide)) (.int .i64 n)) (own_ne (own_rel hown hn) (hK1.rel hn) (by decide)) (.string (b.extract (j + 1) b.size)); have RR := ((hR2.trans hn).setCell (p := ⟨w.heap.size + 1, 0, none⟩) (by simp) (.int .i64 n)).setCell (p := ⟨w.heap.size + 1, 2, none⟩) (by simp) (.string (b.extract (j + 1) b.size)); (with_reducible refine (rright_any n A c xs (b.extract (j + 1) b.size) (by omega) zT _ _ RR.self (Lib.hid (own_ints OW rfl))).mono ?_); rintro e wp ⟨rfl, hp⟩; obtain ⟨⟨c0, c1, c2⟩, f0, f1, f2⟩ := (B0.rel hp).three; obtain ⟨⟨d0, d1, d2⟩, g0, g1, g2⟩ := (B1.rel hp).three))
              obtain ⟨⟨r0, r1, r2⟩, _⟩ := ((B0.rel hp).put3 (.int .i64 n) (.slice A xs.length c) (.string (b.extract (j + 1) b.size))).three
              have hR3 : Rel w (((wp.setCell ⟨w.heap.size, 0, none⟩ (.int .i64 n)).setCell ⟨w.heap.size, 1, none⟩ (.slice A xs.length c)).setCell ⟨w.heap.size, 2, none⟩ (.string (b.extract (j + 1) b.size))) := (((RR.trans hp).setCell (Nat.le_refl _) _).setCell (Nat.le_refl _) _).setCell (Nat.le_refl _) _
              have hI := own_zero (own_put3 (own_rel OW hp) (B0.rel hp) (by decide) (.int .i64 n) (.slice A xs.length c) (.string (b.extract (j + 1) b.size)))
              exact bodyPost_ret (v := .tuple #[.agg #[.int .i64 n, .slice A xs.length c, .string (b.extract (j + 1) b.size)], .bool (rtB n xs (b.extract (j + 1) b.size))]) (by simp [results, Tryd.results28, go_sem, r0, r1, r2]) rfl
                ⟨n, A, c, xs, _, _, rfl, HR.out.trans hR3, hI, (fun h => ⟨rtB_iff.1 h, HF.out⟩), fun h => body_no HF.out h⟩
            · have e0 : ((fr : Int) == 0) = false := by rw [beq_eq_false_iff_ne]; omega
              have HF := Lib.hid (show frBody (pure3 (K, xs ++ [n], b.extract (j + 1) b.size)) = b.data.toList by
                have := HB.out
                rw [show (fr == 0) = false by simp [h0]] at this
                rw [pure3_text]; exact this.symm)
              clear h0
              go_wp2_with (first
                | (go_at_call 36; (with_reducible refine (num_as _ zt n true HNB _ _ HS.out).mono ?_); rintro e wn ⟨rfl, hn⟩; obtain ⟨⟨c0, c1, c2⟩, f0, f1, f2⟩ := (hK0.rel hn).three; obtain ⟨⟨d0, d1, d2⟩, g0, g1, g2⟩ := (hK1.rel hn).three; have hsz : w.heap.size + 2 ≤ wn.heap.size := (hK1.rel hn).lt)
                | (at_builtin; (refine wpList_append_lies _ rfl _ _ 22 rfl (w.heap.size + 2) 3 i0 (.int .i64 0) 1 8 Tryd.underlying22 hi hz0 hz1 hz2 rfl (by decide) _ xs.length (xs.map (Value.int .i64)) rfl ((own_rel hown hn).alloc _) ⟨wn.heap.size, 0, none⟩ 1 1 [.int .i64 n] rfl rfl (cell_one_new wn (.int .i64 n) _) (one_cell n) (by decide) (by unfold maxLen; omega) (by omega) (by simp; omega) _ rfl ?_); intro g cap w1 hown1 hgrow hat hlt1; obtain ⟨K0, K1, R1, OW1⟩ := grown_facts hR2 hn hK0 hK1 hown hown1 hgrow; obtain ⟨⟨d0, d1, d2⟩, g0, g1, g2⟩ := K1.three)
                | (go_at_call 14; have B0 := (K0.far (p := ⟨w.heap.size + 1, 1, none⟩) (by simp) (.slice (some ⟨g, 0, none⟩) (xs.length + 1) cap)).far (p := ⟨w.heap.size + 1, 2, none⟩) (by simp) (.string (b.extract (j + 1) b.size)); have B1 := (K1.set_ 1 (.slice (some ⟨g, 0, none⟩) (xs.length + 1) cap)).set_ 2 (.string (b.extract (j + 1) b.size)); have OW := own_set (p := ⟨w.heap.size + 1, 2, none⟩) (own_set (p := ⟨w.heap.size + 1, 1, none⟩) OW1 (own_ne OW1 K1 (by decide)) (.slice (some ⟨g, 0, none⟩) (xs.length + 1) cap)) (own_ne OW1 K1 (by decide)) (.string (b.extract (j + 1) b.size)); have RR := (R1.setCell (p := ⟨w.heap.size + 1, 1, none⟩) (by simp) (.slice (some ⟨g, 0, none⟩) (xs.length + 1) cap)).setCell (p := ⟨w.heap.size + 1, 2, none⟩) (by simp) (.string (b.extract (j + 1) b.size)); (with_reducible refine (rright_len K (some ⟨g, 0, none⟩) cap (xs ++ [n]) (b.extract (j + 1) b.size) (xs.length + 1) (len_more xs n) (by omega) zT _ _ RR.self (Lib.hid (own_ints OW rfl))).mono ?_); rintro e wp ⟨rfl, hp⟩; obtain ⟨⟨c0, c1, c2⟩, f0, f1, f2⟩ := (B0.rel hp).three; obtain ⟨⟨d0, d1, d2⟩, g0, g1, g2⟩ := (B1.rel hp).three))
              obtain ⟨⟨r0, r1, r2⟩, _⟩ := ((B0.rel hp).put3 (.int .i64 K) (.slice (some ⟨g, 0, none⟩) (xs.length + 1) cap) (.string (b.extract (j + 1) b.size))).three
              have hR3 : Rel w (((wp.setCell ⟨w.heap.size, 0, none⟩ (.int .i64 K)).setCell ⟨w.heap.size, 1, none⟩ (.slice (some ⟨g, 0, none⟩) (xs.length + 1) cap)).setCell ⟨w.heap.size, 2, none⟩ (.string (b.extract (j + 1) b.size))) := (((RR.trans hp).setCell (Nat.le_refl _) _).setCell (Nat.le_refl _) _).setCell (Nat.le_refl _) _
              have hI := own_zero (own_put3 (own_rel OW hp) (B0.rel hp) (by decide) (.int .i64 K) (.slice (some ⟨g, 0, none⟩) (xs.length + 1) cap) (.string (b.extract (j + 1) b.size)))
              exact bodyPost_ret (v := .tuple #[.agg #[.int .i64 K, .slice (some ⟨g, 0, none⟩) (xs.length + 1) cap, .string (b.extract (j + 1) b.size)], .bool (rtB K (xs ++ [n]) (b.extract (j + 1) b.size))]) (by simp [results, Tryd.results28, go_sem, r0, r1, r2]) rfl
                ⟨K, some ⟨g, 0, none⟩, cap, xs ++ [n], _, _, by rw [len_more xs n], HR.out.trans hR3, hI, (fun h => ⟨rtB_iff.1 h, HF.out⟩), fun h => body_no HF.out h⟩
      · obtain ⟨a1, a2⟩ := N32.out (fun e => hs (.inl e))
        obtain ⟨a3, a4⟩ := N58.out (fun e => hs (.inr e))
        have HN := Lib.hid (show noSep ((b.data.toList.drop fr).take (j + 1 - fr)) by
          rw [HT.out, HX.out]
          exact noSep_snoc HA.out.2 (fun e => hs (.inl e)) (fun e => hs (.inr e)))
        clear hs
        go_wp2_with (fail)
        go_roundw
        case rel => exact ⟨j + 1, fr, K, A, c, xs, by omega, by go_num, rfl, by omega, by omega, hR2, hK0, hK1, hown, Lib.hid ⟨HA.out.1, HN.out⟩⟩
        case measure => simp [intOf]; omega
    · obtain rfl : j = b.size := by omega
      have hN := HA.out.1.ended (by
        have := HA.out.2
        rwa [List.take_of_length_le (by rw [List.length_drop, EL.out]; omega)] at this)
      have HN := Lib.hid hN
      clear hN
      obtain ⟨⟨c0, c1, c2⟩, f0, f1, f2⟩ := hK0.three
      obtain ⟨⟨d0, d1, d2⟩, g0, g1, g2⟩ := hK1.three
      go_wp2_with (fail)
      have hF := (hK0.put3 (.int .i64 K) (.slice A xs.length c) (.string ⟨#[]⟩)).three
      obtain ⟨⟨r0, r1, r2⟩, _⟩ := hF
      have hR3 : Rel w (((wr.setCell ⟨w.heap.size, 0, none⟩ (.int .i64 K)).setCell ⟨w.heap.size, 1, none⟩ (.slice A xs.length c)).setCell ⟨w.heap.size, 2, none⟩ (.string ⟨#[]⟩)) := ((hR2.setCell (Nat.le_refl _) _).setCell (Nat.le_refl _) _).setCell (Nat.le_refl _) _
      have hI := own_zero (own_put3 hown hK0 (by decide) (.int .i64 K) (.slice A xs.length c) (.string ⟨#[]⟩))
      exact bodyPost_ret (v := .tuple #[.agg #[.int .i64 K, .slice A xs.length c, .string ⟨#[]⟩], .bool false]) (by simp [results, Tryd.results28, go_sem, r0, r1, r2]) rfl
        ⟨K, A, c, xs, _, false, rfl, HR.out.trans hR3, hI, (fun h => by cases h), fun _ => HN.out⟩
end Go.Proofs.YtjbbfcomgglhiaaDoor
