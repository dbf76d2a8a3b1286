/- The program's reader: what tell does. -/
import Derived.Test.YtjbbfcomgglhiaaDoorReadLeaf
import Derived.Deep.RegionHeld3
import Derived.Deep.RegionLaw
namespace Go.Proofs.YtjbbfcomgglhiaaDoor
open Go.RowKit
open Go.Lib hiding intOf
set_option linter.unusedVariables false
set_option linter.unusedSimpArgs false

theorem NumsOwn.set {w : World} {A : Option Addr} {xs : List Int} (h : NumsOwn w A xs) {g : Nat} {t : TypeId} {cs : Array Value} (hb : Bk w g t cs) (ht : 3 ≠ t) (i : Nat) (u : Value) : NumsOwn (w.setCell ⟨g, i, none⟩ u) A xs := by
  rcases h with h | ⟨g', cap, pre, hA, h⟩
  · exact .inl h
  · exact .inr ⟨g', cap, pre, hA, own_set (p := ⟨g, i, none⟩) h (own_ne h hb ht) u⟩
theorem ElsOwn.set {w : World} {base : Nat} {v : Value} {es : List ((Int × List Int × ByteArray) × Option Addr × Nat)} (h : ElsOwn w base v es) {g : Nat} {t : TypeId} {cs : Array Value} (hb : Bk w g t cs) (ht : 3 ≠ t) (ht' : 24 ≠ t) (i : Nat) (u : Value) : ElsOwn (w.setCell ⟨g, i, none⟩ u) base v es :=
  ⟨own_set (p := ⟨g, i, none⟩) h.1 (own_ne h.1 hb ht') u, fun e he => (h.2 e he).set hb ht i u⟩
/-- What is kept of a reader that told so far. -/
def Reader (w : World) (b base p : Nat) (s : ByteArray) (es : List ((Int × List Int × ByteArray) × Option Addr × Nat)) : Prop :=
  ∃ (A : Option Addr) (c : Nat), Bk w b 53 #[.slice A es.length c, .int .i64 p, .string s] ∧ ElsOwn w base (.slice A es.length c) es
theorem Reader.rel {w w' : World} {b base p : Nat} {s : ByteArray} {es : List ((Int × List Int × ByteArray) × Option Addr × Nat)} (h : Reader w b base p s es) (hr : Rel w w') : Reader w' b base p s es := by
  obtain ⟨A, c, h1, h2⟩ := h
  exact ⟨A, c, h1.rel hr, h2.rel hr⟩
theorem cut_body (F : List UInt8) (h : 4 ≤ F.length) : (B F).extract 2 (F.length - 2) = B ((F.drop 2).take (F.length - 4)) := by
  rw [← B_of ((B F).extract 2 (F.length - 2)), tok_list, B_list, show F.length - 2 - 2 = F.length - 4 by omega]
theorem frame_body (r : Int × List Int × List UInt8) : ((frEnc r).drop 2).take ((frEnc r).length - 4) = frBody r := by
  have h := frEnc_eq r []
  rw [List.append_nil, List.append_nil] at h
  rw [h, List.drop_append_of_le_length (by rw [tw_len]; omega), List.drop_of_length_le (by rw [tw_len]; omega), List.nil_append, ← h, frEnc_len, show (frBody r).length + 4 - 4 = (frBody r).length by omega, List.take_left]
/-- What tell answers: whether these bytes are a right record's frame. -/
def TellPost (b base p : Nat) (s : ByteArray) (F : List UInt8) (es : List ((Int × List Int × ByteArray) × Option Addr × Nat)) (w0 : World) (e : Ending) (w' : World) : Prop :=
  (e = .returned (.bool false) ∧ frGood F = none ∧ Reader w' b base p s es ∧ Rel w0 w') ∨
  (e = .returned (.bool true) ∧ ∃ x, frGood F = some (pure3 x.1) ∧ Reader w' b base (p + F.length) s (es ++ [x]) ∧ Rel w0 w')
theorem good_not {F Bd : List UInt8} {K : Int} {xs : List Int} {tx : ByteArray} {ok : Bool} (hb : Bd = (F.drop 2).take (F.length - 4)) (hS : ∀ r, frRight r → frBody r = Bd → ok = true ∧ (K, xs, tx.data.toList) = r) (h : ok = false ∨ ¬ frRight (K, xs, tx.data.toList) ∨ frEnc (K, xs, tx.data.toList) ≠ F) : frGood F = none := by
  refine frGood_none fun r hr he => ?_
  obtain ⟨h1, h2⟩ := hS r hr (by rw [hb, ← he, frame_body])
  rcases h with h | h | h
  · rw [h] at h1; cases h1
  · rw [h2] at h; exact h hr
  · rw [h2] at h; exact h he
theorem enc_at (k : Int) (A : Option Addr) (cap : Nat) (xs : List Int) (t : ByteArray) (S : ByteArray) (n : Int) (hS : Hid (encT k xs t = S ∧ encE k xs t = n)) (hl : xs.length ≤ 1000000) (ht : t.size ≤ 1000000) (w0 w : World) (hr : Rel w0 w) (hx : Hid (IntsAt w A xs)) :
    Calls Tryd.prog 11 #[.agg #[.int .i64 k, .slice A xs.length cap, .string t]] w fun e w' => e = .returned (.tuple #[.string S, .int .i64 n]) ∧ Rel w0 w' := by
  have h := hS.out
  rw [← h.1, ← h.2]
  exact enc_any k A cap xs t (by omega) (by omega) w0 w hr hx
theorem same_ne (a b : ByteArray) : (a.toList != b.toList) = decide (a ≠ b) := by
  by_cases h : a = b
  · subst h; simp
  · have h1 : (a.toList == b.toList) = false := by
      cases h2 : (a.toList == b.toList)
      · rfl
      · exact absurd (by rw [← B_of a, list_of.1 h2, B_of]) h
    unfold bne; rw [h1]; simp [h]
set_option maxRecDepth 100000 in
set_option maxHeartbeats 4000000 in
theorem tell_any (b base p : Nat) (s : ByteArray) (F : List UInt8) (hF : 4 ≤ F.length) (hF2 : F.length ≤ 70000) (es : List ((Int × List Int × ByteArray) × Option Addr × Nat)) (hes : es.length ≤ 2000000) (hp : p ≤ 2000000) (w0 w : World) (hr : Rel w0 w) (hb0 : w0.heap.size ≤ b) (hbase : w0.heap.size ≤ base) (hbw : base ≤ w.heap.size) (hR : Hid (Reader w b base p s es)) :
    Calls Tryd.prog 35 #[.pointer (some ⟨b, 0, none⟩), .string (B F)] w (TellPost b base p s F es w0) := by
  obtain ⟨i0, hi, hz0, hz1, hz2⟩ := info_parts rec_info
  have z0 : (B F).size = F.length := B_size F
  have E0 := cut_body F hF
  obtain ⟨Bd, hBd⟩ : ∃ Bd, Bd = (F.drop 2).take (F.length - 4) := ⟨_, rfl⟩
  rw [← hBd] at E0
  have zb : Bd.length ≤ 70000 := by rw [hBd, List.length_take]; omega
  have HBD := Lib.hid hBd
  have HR := Lib.hid hr
  have HS := Lib.hid hr.self
  obtain ⟨m, hm⟩ : ∃ m, F.length = m := ⟨_, rfl⟩
  rw [hm] at z0 E0 hF hF2
  have HM := Lib.hid hm
  clear hBd hr hm
  go_enter Tryd.func35, Tryd.ntmps35
  go_upto_region 2 with (go_at_call 40; (with_reducible refine (spelled_any Bd (by omega) _ _ HS.out).mono ?_); rintro e w1 ⟨K, A', c', xs, tx, ok, rfl, hr1, hown, hxl, htl, hyes⟩; have HYES := Lib.hid hyes; have HOWN := Lib.hid hown; clear hyes hown)
  have hr2 := hr1.alloc (.cells #[.int .i64 K, .slice A' xs.length c', .string tx] 24)
  have B0 := Bk.new w1 24 #[.int .i64 K, .slice A' xs.length c', .string tx]
  have hown2 := HOWN.out.rel (hr1.self.alloc (.cells #[.int .i64 K, .slice A' xs.length c', .string tx] 24))
  have hsz1 := hr1.size
  obtain ⟨W2, hW2⟩ : ∃ W2, w1.alloc (.cells #[.int .i64 K, .slice A' xs.length c', .string tx] 24) = W2 := ⟨_, rfl⟩
  obtain ⟨rc, hrc⟩ : ∃ rc, w1.heap.size = rc := ⟨_, rfl⟩
  rw [hW2] at hr2 B0 hown2 ⊢
  rw [hrc] at B0 hsz1 ⊢
  clear hW2 hrc hr1
  have HB0 := Lib.hid B0
  have HN2 := Lib.hid hown2
  have HR2 := Lib.hid hr2
  have HS2 := Lib.hid hr2.self
  obtain ⟨⟨c0, c1, c2⟩, _⟩ := B0.three
  clear HOWN B0 hown2 hr2
  cases ok
  · have hg := Lib.hid (good_not HBD.out HYES.out (.inl rfl))
    go_wp2_with (fail)
    go_ret
    exact .inl ⟨rfl, hg.out, hR.out.rel HR2.out, HR.out.trans HR2.out⟩
  · cases hb : rtB K xs tx
    · have hg := Lib.hid (good_not HBD.out HYES.out (.inr (.inl (fun h => by rw [rtB_iff.2 h] at hb; cases hb))))
      have hE := Lib.hid (show encT K xs tx = B [] ∧ encE K xs tx = 1 by unfold encT encE; rw [hb]; exact ⟨rfl, rfl⟩)
      clear hb
      go_wp2_with (go_at_call 11; (with_reducible refine (enc_at K A' c' xs tx _ _ hE (by omega) (by omega) _ _ HS2.out (Lib.hid HN2.out.ints)).mono ?_); rintro e w3 ⟨rfl, hr3⟩)
      go_ret
      exact .inl ⟨rfl, hg.out, hR.out.rel (HR2.out.trans hr3), HR.out.trans (HR2.out.trans hr3)⟩
    · obtain ⟨Sx, hSx⟩ : ∃ Sx, B (frEnc (K, xs, tx.data.toList)) = Sx := ⟨_, rfl⟩
      have hE := Lib.hid (show encT K xs tx = Sx ∧ encE K xs tx = 0 by unfold encT encE; rw [hb]; exact ⟨hSx, rfl⟩)
      have hrt := rtB_iff.1 hb
      clear hb
      by_cases he : Sx = B F
      · subst he
        have k2 : ((B F).toList != (B F).toList) = false := by rw [same_ne]; simp
        have hgood := Lib.hid (show frGood F = some (pure3 (K, xs, tx)) by
          have : frEnc (K, xs, tx.data.toList) = F := by rw [← B_list (frEnc _), hSx, B_list]
          rw [← this]; exact frGood_enc hrt)
        clear hSx hrt
        go_upto_region 7 with (go_at_call 11; (with_reducible refine (enc_at K A' c' xs tx _ _ hE (by omega) (by omega) _ _ HS2.out (Lib.hid HN2.out.ints)).mono ?_); rintro e w3 ⟨rfl, hr3⟩)
        obtain ⟨A, c, hBw, hEw⟩ := hR.out
        have hRw := HR2.out.trans hr3
        have hB := hBw.rel hRw
        have hE := hEw.rel hRw
        have B3 := HB0.out.rel hr3
        obtain ⟨⟨e0, e1, e2⟩, h0, h1, h2⟩ := B3.three
        obtain ⟨⟨d0, d1, d2⟩, g0, g1, g2⟩ := hB.three
        have hsz3 := hr3.size
        have hszR := HR2.out.size
        have hszw := hRw.size
        have rcl : rc < w3.heap.size := B3.lt
        have bl : b < w3.heap.size := hB.lt
        have brc : b < w.heap.size := hBw.lt
        have nr : some rc ≠ (Value.slice A es.length c).ownBlock := fun e => by have := (hEw.1.lt rc e.symm).2; omega
        have nb : some b ≠ (Value.slice A es.length c).ownBlock := own_ne hE.1 hB (by decide)
        have HN3 := Lib.hid (HN2.out.rel hr3)
        have HRw := Lib.hid hRw
        clear hBw hEw hRw
        have n0 : ∀ i, (⟨rc, i, none⟩ : Addr) ≠ ⟨b, 0, none⟩ := fun i e => by injection e; omega
        have n1 : ∀ i, (⟨rc, i, none⟩ : Addr) ≠ ⟨b, 1, none⟩ := fun i e => by injection e; omega
        go_region_law
          (first
            | (refine step_append_lies _ (by rfl) _ _ _ (by rfl) base 24 i0 _ 3 48 Tryd.underlying32 hi hz0 hz1 hz2 rfl (by decide) (.slice A es.length c) es.length (cellsOf es) (by rfl) ((hE.1.alloc _).drew)
                    ⟨w3.heap.size, 0, none⟩ 1 1 (cells3 ((K, xs, tx), A', c')) (by rfl) (by rfl) (World.news_of_block (Bk.new w3 24 #[.int .i64 K, .slice A' xs.length c', .string tx])) (cells3_one _)
                    (by decide) (by unfold maxLen; omega) (by omega) (by simp; omega) (w3.heap.size + 1) (by simp) ?_; intro g cap w4 hown1 hgrow hat hlt1; have K1 := ((hB.alloc (.cells #[.int .i64 K, .slice A' xs.length c', .string tx] 24)).drew).grown hgrow nb; obtain ⟨⟨y0, y1, y2⟩, fz0, fz1, fz2⟩ := K1.three))
        all_goals
          have K2 := K1.set_ 0 (.slice (some ⟨g, 0, none⟩) (es.length + 1) cap)
          obtain ⟨⟨x0, x1, x2⟩, v0, v1, v2⟩ := K2.three
          have hl := Lib.hid (show (es ++ [((K, xs, tx), A', c')]).length = es.length + 1 by simp)
          have hp2 := Lib.hid (show ((p + F.length : Nat) : Int) = (p : Int) + (m : Int) by rw [HM.out]; omega)
          go_wp2_with (fail)
          go_ret
          refine .inr ⟨rfl, ((K, xs, tx), A', c'), hgood.out, ⟨some ⟨g, 0, none⟩, cap, ?_, ?_⟩, ?_⟩
          · rw [hl.out, hp2.out]; exact K2.set_ 1 _
          · rw [hl.out]
            exact ((ElsOwn.more (e := ((K, xs, tx), A', c')) ((hE.rel (hr3.self.alloc (.cells #[.int .i64 K, .slice A' xs.length c', .string tx] 24))).rel ((hr3.self.alloc (.cells #[.int .i64 K, .slice A' xs.length c', .string tx] 24)).self.drew)) ((HN3.out.rel (hr3.self.alloc (.cells #[.int .i64 K, .slice A' xs.length c', .string tx] 24))).rel ((hr3.self.alloc (.cells #[.int .i64 K, .slice A' xs.length c', .string tx] 24)).self.drew)) hown1 hgrow).set K1 (by decide) (by decide) 0 _).set K2 (by decide) (by decide) 1 _
          · exact (((((HR.out.trans HRw.out).alloc _).drew).grown hgrow (fun k hk => by have := (hE.1.lt k hk).1; omega)).setCell (p := ⟨b, 0, none⟩) hb0 _).setCell (p := ⟨b, 1, none⟩) hb0 _
      · have k2 : (Sx.toList != (B F).toList) = true := by rw [same_ne]; simp [he]
        have k1 : (Sx.toList == (B F).toList) = false := by unfold bne at k2; simpa using k2
        have k0 : ¬ Sx.toList = (B F).toList := by simpa using k1
        have hg := Lib.hid (good_not HBD.out HYES.out (.inr (.inr (fun h => he (by rw [← hSx, h])))))
        clear hSx hrt he
        go_wp2_with (go_at_call 11; (with_reducible refine (enc_at K A' c' xs tx _ _ hE (by omega) (by omega) _ _ HS2.out (Lib.hid HN2.out.ints)).mono ?_); rintro e w3 ⟨rfl, hr3⟩)
        go_ret
        exact .inl ⟨rfl, hg.out, hR.out.rel (HR2.out.trans hr3), HR.out.trans (HR2.out.trans hr3)⟩
end Go.Proofs.YtjbbfcomgglhiaaDoor
