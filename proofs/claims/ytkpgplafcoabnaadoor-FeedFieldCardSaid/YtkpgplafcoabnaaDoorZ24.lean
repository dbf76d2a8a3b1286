/- FeedField, over what the program is asked. -/
import Derived.Test.YtkpgplafcoabnaaDoorZL
import Derived.Test.YtkpgplafcoabnaaDoorZ00
import Derived.Test.YtkpgplafcoabnaaDoorZ01
import Derived.Test.YtkpgplafcoabnaaDoorZ02
import Derived.Test.YtkpgplafcoabnaaDoorZ03
import Derived.Test.YtkpgplafcoabnaaDoorZ06
import Derived.Test.YtkpgplafcoabnaaDoorZ11
import Derived.Test.YtkpgplafcoabnaaDoorZ17
import Derived.Test.YtkpgplafcoabnaaDoorZ18
import Derived.Test.YtkpgplafcoabnaaDoorZ19
import Derived.Test.YtkpgplafcoabnaaDoorZ20
import Derived.Test.YtkpgplafcoabnaaDoorZ23
namespace Go.Proofs.YtkpgplafcoabnaaDoor
open Go.RowKit Go.Lib
set_option linter.unusedVariables false
set_option linter.unusedSimpArgs false
theorem nam_cellB (m : Nat) (h : m < 6) (W : World) : (W.alloc (.cells #[.string ⟨#[]⟩, .string ⟨#[65]⟩, .string ⟨#[57, 97]⟩, .string ⟨#[105, 102]⟩, .string ⟨#[97, 98, 99, 100, 101, 102, 103, 104, 105, 106, 107, 108, 109]⟩, .string ⟨#[97, 46, 98]⟩] 9)).cell? ⟨W.heap.size, m, none⟩ = some (.string (B (namB.getD m []))) := by
  rw [(Bk.new W 9 #[.string ⟨#[]⟩, .string ⟨#[65]⟩, .string ⟨#[57, 97]⟩, .string ⟨#[105, 102]⟩, .string ⟨#[97, 98, 99, 100, 101, 102, 103, 104, 105, 106, 107, 108, 109]⟩, .string ⟨#[97, 46, 98]⟩]).cell m]
  have : ∀ i : Fin 6, (#[.string ⟨#[]⟩, .string ⟨#[65]⟩, .string ⟨#[57, 97]⟩, .string ⟨#[105, 102]⟩, .string ⟨#[97, 98, 99, 100, 101, 102, 103, 104, 105, 106, 107, 108, 109]⟩, .string ⟨#[97, 46, 98]⟩] : Array Value)[i.val]? = some (.string (B (namB.getD i.val []))) := fun i => by
    match i with
    | ⟨0, _⟩ => rfl
    | ⟨1, _⟩ => rfl
    | ⟨2, _⟩ => rfl
    | ⟨3, _⟩ => rfl
    | ⟨4, _⟩ => rfl
    | ⟨5, _⟩ => rfl
  exact this ⟨m, h⟩
theorem seq_cellB (m : Nat) (h : m < 6) (W : World) : (W.alloc (.cells #[.string ⟨#[48]⟩, .string ⟨#[]⟩, .string ⟨#[45, 49]⟩, .string ⟨#[48, 55]⟩, .string ⟨#[49, 48, 48, 48, 48, 48, 48, 48, 48, 48, 48, 48, 49]⟩, .string ⟨#[49, 46, 53]⟩] 9)).cell? ⟨W.heap.size, m, none⟩ = some (.string (B (seqB.getD m []))) := by
  rw [(Bk.new W 9 #[.string ⟨#[48]⟩, .string ⟨#[]⟩, .string ⟨#[45, 49]⟩, .string ⟨#[48, 55]⟩, .string ⟨#[49, 48, 48, 48, 48, 48, 48, 48, 48, 48, 48, 48, 49]⟩, .string ⟨#[49, 46, 53]⟩]).cell m]
  have : ∀ i : Fin 6, (#[.string ⟨#[48]⟩, .string ⟨#[]⟩, .string ⟨#[45, 49]⟩, .string ⟨#[48, 55]⟩, .string ⟨#[49, 48, 48, 48, 48, 48, 48, 48, 48, 48, 48, 48, 49]⟩, .string ⟨#[49, 46, 53]⟩] : Array Value)[i.val]? = some (.string (B (seqB.getD i.val []))) := fun i => by
    match i with
    | ⟨0, _⟩ => rfl
    | ⟨1, _⟩ => rfl
    | ⟨2, _⟩ => rfl
    | ⟨3, _⟩ => rfl
    | ⟨4, _⟩ => rfl
    | ⟨5, _⟩ => rfl
  exact this ⟨m, h⟩
theorem pri_cellB (m : Nat) (h : m < 6) (W : World) : (W.alloc (.cells #[.string ⟨#[48, 46, 48, 48]⟩, .string ⟨#[]⟩, .string ⟨#[45, 49, 46, 48, 48]⟩, .string ⟨#[49]⟩, .string ⟨#[71, 111, 110, 101]⟩, .string ⟨#[49, 48, 48, 48, 48, 48, 48, 48, 48, 48, 48, 46, 48, 49]⟩] 9)).cell? ⟨W.heap.size, m, none⟩ = some (.string (B (priB.getD m []))) := by
  rw [(Bk.new W 9 #[.string ⟨#[48, 46, 48, 48]⟩, .string ⟨#[]⟩, .string ⟨#[45, 49, 46, 48, 48]⟩, .string ⟨#[49]⟩, .string ⟨#[71, 111, 110, 101]⟩, .string ⟨#[49, 48, 48, 48, 48, 48, 48, 48, 48, 48, 48, 46, 48, 49]⟩]).cell m]
  have : ∀ i : Fin 6, (#[.string ⟨#[48, 46, 48, 48]⟩, .string ⟨#[]⟩, .string ⟨#[45, 49, 46, 48, 48]⟩, .string ⟨#[49]⟩, .string ⟨#[71, 111, 110, 101]⟩, .string ⟨#[49, 48, 48, 48, 48, 48, 48, 48, 48, 48, 48, 46, 48, 49]⟩] : Array Value)[i.val]? = some (.string (B (priB.getD i.val []))) := fun i => by
    match i with
    | ⟨0, _⟩ => rfl
    | ⟨1, _⟩ => rfl
    | ⟨2, _⟩ => rfl
    | ⟨3, _⟩ => rfl
    | ⟨4, _⟩ => rfl
    | ⟨5, _⟩ => rfl
  exact this ⟨m, h⟩
theorem BadI.rr {V : World} {nm sq pr : ByteArray} {mm : Int} {m : Nat} {l : Array Bool} {f : Nat → Value} {w : World} (h : BadI V nm sq pr mm m l f w) : Rel V w := h.1
theorem renc_at2 (f : Fd) (hf : FdFit f) (v : Value) (hv : FV f = v) (s : ByteArray) (hs : B (encT f) = s) (e : Int) (he : encE f = e) (w : World) (hr : Rel w w) :
    Calls Tryd.prog 12 #[v] w fun r w' => r = .returned (.tuple #[.string s, .int .i64 e]) ∧ Rel w w' := by
  rw [← hv, ← hs, ← he]; exact rfencode_any f hf w w hr
theorem B_drop (s : List UInt8) (j L : Nat) (hL : s.length = L) : (B s).extract j L = B (s.drop j) := by
  subst hL
  apply ByteArray.ext
  apply Array.ext'
  simp [B, List.extract_eq_take_drop, List.take_of_length_le]
theorem emp_app (X : ByteArray) : (⟨#[]⟩ : ByteArray) ++ X = X := by
  have := B_append [] X.data.toList
  rw [B_of] at this
  exact this.trans (by rw [List.nil_append, B_of])
theorem Rel.self2 {w0 w : World} (h : Rel w0 w) : Rel w w := h.self
/-- The bytes behind the last blank of a line's text. -/
theorem last_field (f : Fd) (h : rightF f = true) : ∃ b : Nat, b + 1 < (textF f).length ∧ (∀ hb : b < (textF f).length, (textF f)[b] = 32) ∧ (∀ i (hi : i < (textF f).length), b < i → (textF f)[i] ≠ 32) ∧ (textF f).drop (b + 1) = priceT f.2.2.2.2 := by
  obtain ⟨h1, h2, h3, h4, h5⟩ := rightF_iff.1 h
  obtain ⟨A, hA⟩ := text_last f
  have hne := txt_ne h5.1 h5.2
  have hcl := price_clean h5.1 h5.2
  obtain ⟨P, hP⟩ : ∃ P, priceT f.2.2.2.2 = P := ⟨_, rfl⟩
  rw [hP] at hA hne hcl ⊢
  rw [hA]
  refine ⟨A.length, ?_, ?_, ?_, ?_⟩
  · rw [List.length_append, List.length_cons]
    have : 0 < P.length := List.length_pos_iff.2 hne
    omega
  · intro hb
    rw [List.getElem_append_right (Nat.le_refl _)]
    simp
  · intro i hi hbi
    rw [List.getElem_append_right (by omega)]
    obtain ⟨d, hd⟩ : ∃ d, i - A.length = d + 1 := ⟨i - A.length - 1, by omega⟩
    simp only [hd, List.getElem_cons_succ]
    exact fun e => hcl (by rw [← e]; exact List.getElem_mem _)
  · rw [List.drop_append]
    simp
set_option maxRecDepth 100000 in
set_option maxHeartbeats 4000000 in
theorem FeedField_at (H : FeedOk) (r0 r1 r2 r3 r4 kk mm : Int) (hf : RawFit (r0, r1, r2, r3, r4)) (hkk : i64 kk) (hmm : i64 mm) (w : World) (hr : Rel w w) :
    Calls Tryd.prog 6 #[.agg #[.int .i64 r0, .int .i64 r1, .int .i64 r2, .int .i64 r3, .int .i64 r4], .int .i64 kk, .int .i64 mm] w fun e w' => e = .returned (.bool true) ∧ Rel w w' := by
  obtain ⟨f, hff⟩ : ∃ f, lineF (r0, r1, r2, r3, r4) = f := ⟨_, rfl⟩
  have rf : rightF f = true := by rw [← hff]; exact line_right _
  obtain ⟨xa, xc, xd, xn, xp, hx, x0, x1, x2, x3, x4⟩ := mk5 f
  have HL1 := Lib.hid (show ∀ w1 : World, Rel w1 w1 → Calls Tryd.prog 10 #[.agg #[.int .i64 r0, .int .i64 r1, .int .i64 r2, .int .i64 r3, .int .i64 r4]] w1 fun e w' => e = .returned (.agg #[.string xa, .int .i64 xn, .string xc, .string xd, .int .i64 xp]) ∧ Rel w1 w' from fun w1 h => line_at (r0, r1, r2, r3, r4) hf (.agg #[.string xa, .int .i64 xn, .string xc, .string xd, .int .i64 xp]) (by rw [hff, hx]) w1 h)
  obtain ⟨S, hS⟩ : ∃ S, B (encT f) = S := ⟨_, rfl⟩
  have zS : S.size ≤ 69 := by rw [← hS, B_size, (encT_yes rf).1]; exact fdtext_len rf
  have HF1 := Lib.hid (fun (w1 : World) (h : Rel w1 w1) => renc_at2 f (right_fit rf) _ hx S hS 0 (encT_yes rf).2 w1 h)
  have hpr := (rightF_iff.1 rf).2.2.2.2
  rw [x4] at hpr
  obtain ⟨PT, hPT⟩ : ∃ P, B (priceT xp) = P := ⟨_, rfl⟩
  have PQ := Lib.hid hPT
  have PG := Lib.hid (show ¬ 0 < xp → PT = ⟨#[103, 111, 110, 101]⟩ from fun h => by rw [← hPT]; unfold priceT; rw [if_neg h]; rfl)
  obtain ⟨b, hb1, hb2, hb3, hb4⟩ := last_field f rf
  obtain ⟨L, hL⟩ : ∃ L, S.size = L := ⟨_, rfl⟩
  have hLt : (textF f).length = L := by rw [← hL, ← hS, B_size, (encT_yes rf).1]
  have PE := Lib.hid (show S.extract (b + 1) L = PT from by rw [← hS, (encT_yes rf).1, B_drop _ _ _ hLt, hb4, x4, hPT])
  have PB := Lib.hid (show ∀ h, S[b]'h = 32 from fun h => by subst hS; rw [hLt] at hb1; have := hb2 (by omega); rw [← this]; simp only [(encT_yes rf).1]; rfl)
  have PC := Lib.hid (show ∀ i (h : i < S.size), b < i → S[i]'h ≠ 32 from fun i h hi => by subst hS; have := hb3 i (by rw [hLt, ← hL]; exact h) hi; intro e; apply this; rw [← e]; simp only [(encT_yes rf).1]; rfl)
  rw [hLt] at hb1
  obtain ⟨q, rfl⟩ : ∃ q, L = q + 1 := ⟨L - 1, by omega⟩
  have hbq : b < q := by omega
  obtain ⟨m', hm'⟩ : ∃ q, pk mm 6 = q := ⟨_, rfl⟩
  have bm := pk_bd mm 6 (by omega)
  rw [hm'] at bm
  obtain ⟨m, rfl⟩ : ∃ m : Nat, m' = (m : Int) := ⟨m'.toNat, by omega⟩
  have m6 : m < 6 := by omega
  obtain ⟨k', hk'⟩ : ∃ q, pk kk 5 = q := ⟨_, rfl⟩
  have bk := pk_bd kk 5 (by omega)
  rw [hk'] at bk
  obtain ⟨k, rfl⟩ : ∃ k : Nat, k' = (k : Int) := ⟨k'.toNat, by omega⟩
  have k5 : k < 5 := by omega
  have P5 := Lib.hid hk'
  have P6 := Lib.hid hm'
  simp only [i64] at hkk hmm
  have HR := Lib.hid hr
  have HAw := Lib.hid (fun (w1 : World) (h : Rel w1 w1) => awake12_any H w1 w1 h)
  have HA0 := Lib.hid (hr.alloc (.cells #[.int .i64 r0, .int .i64 r1, .int .i64 r2, .int .i64 r3, .int .i64 r4] 24))
  have HX0 := Lib.hid (Bk.new w 24 #[.int .i64 r0, .int .i64 r1, .int .i64 r2, .int .i64 r3, .int .i64 r4])
  obtain ⟨W0, hW0⟩ : ∃ W0, w.alloc (.cells #[.int .i64 r0, .int .i64 r1, .int .i64 r2, .int .i64 r3, .int .i64 r4] 24) = W0 := ⟨_, rfl⟩
  rw [hW0] at HA0 HX0
  have HH := Lib.hid H
  have RF := Lib.hid rf
  have QA := Lib.hid x0
  have QC := Lib.hid x2
  have QD := Lib.hid x3
  have QP := Lib.hid x4
  clear hr hf hff hS hx x0 x1 x2 x3 x4 H rf hPT hb2 hb3 hb4 hLt hm' hk'
  go_enter Tryd.func6, Tryd.ntmps6
  go_upto_region 1 with (fail)
  try rw [hW0]
  clear hW0
  go_upto_region 3 with (first
    | (go_at_call 9; (with_reducible refine (HAw.out _ HA0.out.self).mono ?_); rintro e0 W1 ⟨rfl, h1⟩; have HW1 := Lib.hid h1; obtain ⟨⟨d0, d1, d2, d3, d4⟩, _⟩ := five_of (HX0.out.rel h1); clear h1)
    | (go_at_call 10; (with_reducible refine (HL1.out _ HW1.out.self).mono ?_); rintro e0 w2 ⟨rfl, h2⟩; have HW2 := Lib.hid (HW1.out.trans h2); clear h2))
  have G3 := Lib.hid (HW2.out.alloc (.cells #[.string xa, .int .i64 xn, .string xc, .string xd, .int .i64 xp] 23))
  have HB3 := Lib.hid (Bk.new w2 23 #[.string xa, .int .i64 xn, .string xc, .string xd, .int .i64 xp])
  obtain ⟨gl, hgl⟩ : ∃ g, w2.heap.size = g := ⟨_, rfl⟩
  obtain ⟨W3, hW3⟩ : ∃ W3, w2.alloc (.cells #[.string xa, .int .i64 xn, .string xc, .string xd, .int .i64 xp] 23) = W3 := ⟨_, rfl⟩
  rw [hW3] at G3 HB3
  rw [hgl] at HB3
  try rw [hW3]
  try rw [hgl]
  clear hW3 hgl d0 d1 d2 d3 d4
  obtain ⟨⟨b0, b1, b2, b3, b4⟩, _⟩ := five_of HB3.out
  go_upto_if 35 with (fail)
  go_cut [9] (fun v wx => ∃ V : World, V = wx ∧ v = .string PT ∧ Hid (Rel W3 V))
  case first =>
    have hq1 : min ((q : Int) + 1) 1 = 1 := by omega
    have hq2 : min (((q + 1 : Nat) : Int)) 1 = 1 := by omega
    by_cases hp : 0 < xp
    · go_upto_block 0 with (go_at_call 12; (with_reducible refine (HF1.out _ G3.out.self).mono ?_); rintro e0 w4 ⟨rfl, h4⟩; have G4 := Lib.hid h4; clear h4)
      go_wp2_with (fail)
      go_loopw [9, 12] (fun p i wr => ∃ (n : Nat) (Pm : ByteArray), b ≤ n ∧ n ≤ q ∧ i = .int .i64 (n : Int) ∧ p = .string Pm ∧ Hid (Pm = S.extract (min (n + 1) q) (q + 1)) ∧ w4 = wr) (fun _ i _ => (RowKit.intOf i).toNat)
      case atStart => exact ⟨q, _, by omega, Nat.le_refl _, rfl, rfl, Lib.hid (by rw [show min (q + 1) q = q by omega]), by first | exact rfl | exact trivial⟩
      case round =>
        obtain ⟨n, Pm, hn1, hn2, rfl, rfl, HPm, rfl⟩ := hrel
        by_cases he : n = b
        · subst he
          obtain ⟨c, hc⟩ : ∃ c : UInt8, c = 32 := ⟨_, rfl⟩
          have hg : ∀ h, S[n]'h = c := fun h => by rw [hc]; exact PB.out h
          have hb : ((c.toNat : Int) != 32) = false := by rw [hc]; decide
          have hlt : n < q + 1 := by omega
          clear hc
          go_wp2_with (fail)
          go_meet
          exact ⟨_, rfl, by rw [HPm.out, show min (n + 1) q = n + 1 by omega, PE.out], Lib.hid G4.out⟩
        · obtain ⟨u, rfl⟩ : ∃ u, n = u + 1 := ⟨n - 1, by omega⟩
          have hlt : u + 1 < q + 1 := by omega
          obtain ⟨c, hc⟩ : ∃ c : UInt8, S[u + 1]'(by omega) = c := ⟨_, rfl⟩
          have hg : ∀ h, S[u + 1]'h = c := fun h => hc
          have hb : ((c.toNat : Int) != 32) = true := by
            have hne := PC.out (u + 1) (by omega) (by omega)
            rw [hc] at hne
            have : c.toNat ≠ 32 := fun e => hne (UInt8.toNat_inj.1 e)
            simp; omega
          clear hc
          go_wp2_with (fail)
          go_roundw
          case rel => exact ⟨u, _, by omega, by omega, by go_num, rfl, Lib.hid (by rw [show min (u + 1) q = u + 1 by omega]), by first | exact rfl | exact trivial⟩
          case measure => simp [RowKit.intOf]
    · have e := PG.out (by omega)
      subst e
      go_wp2_with (fail)
      go_meet
      exact ⟨_, rfl, rfl, Lib.hid G3.out.self⟩
  obtain ⟨V, rfl, rfl, G5⟩ := hcut
  clear b0 b1 b2 b3 b4
  obtain ⟨⟨b0, b1, b2, b3, b4⟩, _⟩ := five_of (HB3.out.rel G5.out)
  obtain ⟨nm, hnm⟩ : ∃ x, B (namB.getD m []) = x := ⟨_, rfl⟩
  obtain ⟨sq, hsq⟩ : ∃ x, B (seqB.getD m []) = x := ⟨_, rfl⟩
  obtain ⟨pr, hprr⟩ : ∃ x, B (priB.getD m []) = x := ⟨_, rfl⟩
  have CN := Lib.hid (fun W => nam_cellB m m6 W)
  have CS := Lib.hid (fun W => seq_cellB m m6 W)
  have CP := Lib.hid (fun W => pri_cellB m m6 W)
  rw [hnm] at CN
  rw [hsq] at CS
  rw [hprr] at CP
  have QN := Lib.hid hnm
  have QS := Lib.hid hsq
  have QR := Lib.hid hprr
  clear hnm hsq hprr
  have m6' : (m : Int) < 6 := by omega
  have k5' : (k : Int) < 5 := by omega
  go_upto_region 12 with (fail)
  have G6 := Lib.hid (G5.out.alloc (.cells #[.string xa, .string ⟨#[55]⟩, .string xc, .string xd, .string PT] 9))
  have HF6 := Lib.hid (Bk.new V 9 #[.string xa, .string ⟨#[55]⟩, .string xc, .string xd, .string PT])
  have HB6 := Lib.hid ((HB3.out.rel G5.out).alloc (.cells #[.string xa, .string ⟨#[55]⟩, .string xc, .string xd, .string PT] 9))
  obtain ⟨gf, hgf⟩ : ∃ g, V.heap.size = g := ⟨_, rfl⟩
  obtain ⟨V1, hV1⟩ : ∃ V1, V.alloc (.cells #[.string xa, .string ⟨#[55]⟩, .string xc, .string xd, .string PT] 9) = V1 := ⟨_, rfl⟩
  rw [hV1] at G6 HF6 HB6
  rw [hgf] at HF6
  try rw [hV1]
  try rw [hgf]
  clear hV1 hgf b0 b1 b2 b3 b4
  have cn := CN.out
  go_upto_region 14 with (first
    | (go_at_call 15; (with_reducible refine (pick12_as kk 5 (k : Int) P5 hkk.1 hkk.2 (by omega) (by omega) _).mono ?_); rintro e0 w' ⟨rfl, rfl⟩)
    | (go_at_call 15; (with_reducible refine (pick12_as mm 6 (m : Int) P6 hmm.1 hmm.2 (by omega) (by omega) _).mono ?_); rintro e0 w' ⟨rfl, rfl⟩))
  clear cn
  have G7 := Lib.hid (G6.out.alloc (.cells #[.string ⟨#[]⟩, .string ⟨#[65]⟩, .string ⟨#[57, 97]⟩, .string ⟨#[105, 102]⟩, .string ⟨#[97, 98, 99, 100, 101, 102, 103, 104, 105, 106, 107, 108, 109]⟩, .string ⟨#[97, 46, 98]⟩] 9))
  have HF7 := Lib.hid (HF6.out.alloc (.cells #[.string ⟨#[]⟩, .string ⟨#[65]⟩, .string ⟨#[57, 97]⟩, .string ⟨#[105, 102]⟩, .string ⟨#[97, 98, 99, 100, 101, 102, 103, 104, 105, 106, 107, 108, 109]⟩, .string ⟨#[97, 46, 98]⟩] 9))
  have HB7 := Lib.hid (HB6.out.alloc (.cells #[.string ⟨#[]⟩, .string ⟨#[65]⟩, .string ⟨#[57, 97]⟩, .string ⟨#[105, 102]⟩, .string ⟨#[97, 98, 99, 100, 101, 102, 103, 104, 105, 106, 107, 108, 109]⟩, .string ⟨#[97, 46, 98]⟩] 9))
  obtain ⟨V2, hV2⟩ : ∃ V2, V1.alloc (.cells #[.string ⟨#[]⟩, .string ⟨#[65]⟩, .string ⟨#[57, 97]⟩, .string ⟨#[105, 102]⟩, .string ⟨#[97, 98, 99, 100, 101, 102, 103, 104, 105, 106, 107, 108, 109]⟩, .string ⟨#[97, 46, 98]⟩] 9) = V2 := ⟨_, rfl⟩
  rw [hV2] at G7 HF7 HB7
  try rw [hV2]
  clear hV2
  go_cut [16] (fun v wx => ∃ (V3 : World) (gb : Nat), V3 = wx ∧ v = .slice (some ⟨gb, 0, none⟩) 5 5 ∧ Hid (Rel V2 V3) ∧ Hid (Bk V3 gb 9 #[.string nm, .string sq, .string nm, .string nm, .string pr]))
  case first =>
    have cs := CS.out
    have cp := CP.out
    have LS := Lib.hid (show (#[.string ⟨#[48]⟩, .string ⟨#[]⟩, .string ⟨#[45, 49]⟩, .string ⟨#[48, 55]⟩, .string ⟨#[49, 48, 48, 48, 48, 48, 48, 48, 48, 48, 48, 48, 49]⟩, .string ⟨#[49, 46, 53]⟩] : Array Value)[m]? = some (.string sq) from by have e := (Bk.new V2 9 #[.string ⟨#[48]⟩, .string ⟨#[]⟩, .string ⟨#[45, 49]⟩, .string ⟨#[48, 55]⟩, .string ⟨#[49, 48, 48, 48, 48, 48, 48, 48, 48, 48, 48, 48, 49]⟩, .string ⟨#[49, 46, 53]⟩]).cell m; rw [cs] at e; exact e.symm)
    have LP := Lib.hid (show (#[.string ⟨#[48, 46, 48, 48]⟩, .string ⟨#[]⟩, .string ⟨#[45, 49, 46, 48, 48]⟩, .string ⟨#[49]⟩, .string ⟨#[71, 111, 110, 101]⟩, .string ⟨#[49, 48, 48, 48, 48, 48, 48, 48, 48, 48, 48, 46, 48, 49]⟩] : Array Value)[m]? = some (.string pr) from by have e := (Bk.new V2 9 #[.string ⟨#[48, 46, 48, 48]⟩, .string ⟨#[]⟩, .string ⟨#[45, 49, 46, 48, 48]⟩, .string ⟨#[49]⟩, .string ⟨#[71, 111, 110, 101]⟩, .string ⟨#[49, 48, 48, 48, 48, 48, 48, 48, 48, 48, 48, 46, 48, 49]⟩]).cell m; rw [cp] at e; exact e.symm)
    clear cs cp
    refine wp_region_any (by kernel_rfl) ?_
    refine wpAny_lastA 15 14 (fun a l a' w' => ∃ f : Nat → Value, a' = updM a [80, 81, 82, 83, 84, 85, 86, 87, 88, 89, 90, 91, 92, 93] f ∧ BadI V2 nm sq pr mm m l f w') (by kernel_rfl) (by kernel_rfl) (by decide) (by kernel_rfl) _ _ ?_ ?_ ⟨_, updM_self _ [80, 81, 82, 83, 84, 85, 86, 87, 88, 89, 90, 91, 92, 93], G7.out.self.drew, fun i hi h => by rw [rep_false] at h; cases h⟩
    · rintro i l a1 wq hi14 hne hil ⟨f, ha, hI⟩ hi
      have ways : i = 0 ∨ i = 1 ∨ i = 2 ∨ i = 3 ∨ i = 4 ∨ i = 5 ∨ i = 6 ∨ i = 7 ∨ i = 8 ∨ i = 9 ∨ i = 10 ∨ i = 11 ∨ i = 12 ∨ i = 13 := by omega
      have E15 : a1.tmps.getD 15 undef = .string nm := by rw [ha, updM_get]; rfl
      have E2 : a1.tmps.getD 2 undef = .int .i64 mm := by rw [ha, updM_get]; rfl
      have E80 : a1.tmps.getD 80 undef = f 80 := by rw [ha, updM_get]; rfl
      have E81 : a1.tmps.getD 81 undef = f 81 := by rw [ha, updM_get]; rfl
      have E82 : a1.tmps.getD 82 undef = f 82 := by rw [ha, updM_get]; rfl
      have E83 : a1.tmps.getD 83 undef = f 83 := by rw [ha, updM_get]; rfl
      have E84 : a1.tmps.getD 84 undef = f 84 := by rw [ha, updM_get]; rfl
      have E85 : a1.tmps.getD 85 undef = f 85 := by rw [ha, updM_get]; rfl
      have E86 : a1.tmps.getD 86 undef = f 86 := by rw [ha, updM_get]; rfl
      have E87 : a1.tmps.getD 87 undef = f 87 := by rw [ha, updM_get]; rfl
      have E88 : a1.tmps.getD 88 undef = f 88 := by rw [ha, updM_get]; rfl
      have E89 : a1.tmps.getD 89 undef = f 89 := by rw [ha, updM_get]; rfl
      have E90 : a1.tmps.getD 90 undef = f 90 := by rw [ha, updM_get]; rfl
      have E91 : a1.tmps.getD 91 undef = f 91 := by rw [ha, updM_get]; rfl
      have E92 : a1.tmps.getD 92 undef = f 92 := by rw [ha, updM_get]; rfl
      have E93 : a1.tmps.getD 93 undef = f 93 := by rw [ha, updM_get]; rfl
      have D80 : a1.tmps[80]?.getD undef = f 80 := by rw [← Array.getD_eq_getD_getElem?]; exact E80
      have D85 : a1.tmps[85]?.getD undef = f 85 := by rw [← Array.getD_eq_getD_getElem?]; exact E85
      have D86 : a1.tmps[86]?.getD undef = f 86 := by rw [← Array.getD_eq_getD_getElem?]; exact E86
      have D87 : a1.tmps[87]?.getD undef = f 87 := by rw [← Array.getD_eq_getD_getElem?]; exact E87
      have D92 : a1.tmps[92]?.getD undef = f 92 := by rw [← Array.getD_eq_getD_getElem?]; exact E92
      have HP := Lib.hid (show ∀ (d : Nat) (v : Value), List.contains [80, 81, 82, 83, 84, 85, 86, 87, 88, 89, 90, 91, 92, 93] d = true → a1.put (some d) v = updM _ [80, 81, 82, 83, 84, 85, 86, 87, 88, 89, 90, 91, 92, 93] (fun k => if k = d then v else f k) from fun d v hd => by rw [ha]; exact updM_put _ _ _ _ _ hd)
      clear ha hi14 hne
      rcases ways with rfl | rfl | rfl | rfl | rfl | rfl | rfl | rfl | rfl | rfl | rfl | rfl | rfl | rfl
      · refine wpOp_shut rfl (fun K hK => ?_)
        have HI := Lib.hid hI
        clear hi hI hil
        try simp only [List.getElem_toArray, List.getElem_cons_succ, List.getElem_cons_zero]
        rw [if_pos (by rfl)]
        go_simp
        exact hK.out _ _ ⟨fun k => if k = 80 then .string nm else f k, HP.out 80 (.string nm) (by decide), HI.out.put HI.out.rr.self 0 (by omega) 80 rfl rfl⟩
      · refine wpOp_shut rfl (fun K hK => ?_)
        have HI := Lib.hid hI
        clear hi hI hil
        try simp only [List.getElem_toArray, List.getElem_cons_succ, List.getElem_cons_zero]
        rw [if_pos (by rfl)]
        go_simp
        exact hK.out _ _ ⟨fun k => if k = 81 then .slice (some ⟨wq.heap.size, 0, none⟩) 6 6 else f k, HP.out 81 (.slice (some ⟨wq.heap.size, 0, none⟩) 6 6) (by decide), HI.out.put (HI.out.rr.self.alloc _) 1 (by omega) 81 rfl ⟨_, rfl, Bk.new _ _ _⟩⟩
      · refine wpOp_shut rfl (fun K hK => ?_)
        have HI := Lib.hid hI
        clear hi hI hil
        try simp only [List.getElem_toArray, List.getElem_cons_succ, List.getElem_cons_zero]
        rw [if_pos (by rfl)]
        go_simp
        exact hK.out _ _ ⟨fun k => if k = 82 then .int .i64 mm else f k, HP.out 82 (.int .i64 mm) (by decide), HI.out.put HI.out.rr.self 2 (by omega) 82 rfl rfl⟩
      · refine wpOp_shut rfl (fun K hK => ?_)
        have h2 := hI.2 2 (by omega) (ready_need hi (by kernel_rfl)); simp only [BadP, Nat.reduceAdd] at h2
        have HI := Lib.hid hI
        clear hi hI hil
        try simp only [List.getElem_toArray, List.getElem_cons_succ, List.getElem_cons_zero]
        rw [if_pos (by rfl)]
        go_simp
        go_at_call 15
        (with_reducible refine (pick12_as mm 6 (m : Int) P6 hmm.1 hmm.2 (by omega) (by omega) _).mono ?_)
        rintro e w' ⟨rfl, rfl⟩
        exact hK.out _ _ ⟨fun k => if k = 83 then .int .i64 (m : Int) else f k, HP.out 83 (.int .i64 (m : Int)) (by decide), HI.out.put HI.out.rr.self 3 (by omega) 83 rfl rfl⟩
      · refine wpOp_shut rfl (fun K hK => ?_)
        have h1 := hI.2 1 (by omega) (ready_need hi (by kernel_rfl)); simp only [BadP, Nat.reduceAdd] at h1
        obtain ⟨q1, y1, b1⟩ := h1
        have h3 := hI.2 3 (by omega) (ready_need hi (by kernel_rfl)); simp only [BadP, Nat.reduceAdd] at h3
        have lk : (m : Int) < 6 := by omega
        have HI := Lib.hid hI
        clear hi hI hil
        try simp only [List.getElem_toArray, List.getElem_cons_succ, List.getElem_cons_zero]
        rw [if_pos (by rfl)]
        go_simp
        exact hK.out _ _ ⟨fun k => if k = 84 then .pointer (some ⟨q1, m, none⟩) else f k, HP.out 84 (.pointer (some ⟨q1, m, none⟩)) (by decide), HI.out.put HI.out.rr.self 4 (by omega) 84 rfl ⟨q1, rfl, b1⟩⟩
      · refine wpOp_shut rfl (fun K hK => ?_)
        have h4 := hI.2 4 (by omega) (ready_need hi (by kernel_rfl)); simp only [BadP, Nat.reduceAdd] at h4
        obtain ⟨q4, y4, b4⟩ := h4
        have hc : wq.cell? ⟨q4, m, none⟩ = some (.string sq) := (b4.cell m).trans LS.out
        have HI := Lib.hid hI
        clear hi hI hil
        try simp only [List.getElem_toArray, List.getElem_cons_succ, List.getElem_cons_zero]
        rw [if_pos (by rfl)]
        go_simp
        exact hK.out _ _ ⟨fun k => if k = 85 then .string sq else f k, HP.out 85 (.string sq) (by decide), HI.out.put HI.out.rr.self 5 (by omega) 85 rfl rfl⟩
      · refine wpOp_shut rfl (fun K hK => ?_)
        have HI := Lib.hid hI
        clear hi hI hil
        try simp only [List.getElem_toArray, List.getElem_cons_succ, List.getElem_cons_zero]
        rw [if_pos (by rfl)]
        go_simp
        exact hK.out _ _ ⟨fun k => if k = 86 then .string nm else f k, HP.out 86 (.string nm) (by decide), HI.out.put HI.out.rr.self 6 (by omega) 86 rfl rfl⟩
      · refine wpOp_shut rfl (fun K hK => ?_)
        have HI := Lib.hid hI
        clear hi hI hil
        try simp only [List.getElem_toArray, List.getElem_cons_succ, List.getElem_cons_zero]
        rw [if_pos (by rfl)]
        go_simp
        exact hK.out _ _ ⟨fun k => if k = 87 then .string nm else f k, HP.out 87 (.string nm) (by decide), HI.out.put HI.out.rr.self 7 (by omega) 87 rfl rfl⟩
      · refine wpOp_shut rfl (fun K hK => ?_)
        have HI := Lib.hid hI
        clear hi hI hil
        try simp only [List.getElem_toArray, List.getElem_cons_succ, List.getElem_cons_zero]
        rw [if_pos (by rfl)]
        go_simp
        exact hK.out _ _ ⟨fun k => if k = 88 then .slice (some ⟨wq.heap.size, 0, none⟩) 6 6 else f k, HP.out 88 (.slice (some ⟨wq.heap.size, 0, none⟩) 6 6) (by decide), HI.out.put (HI.out.rr.self.alloc _) 8 (by omega) 88 rfl ⟨_, rfl, Bk.new _ _ _⟩⟩
      · refine wpOp_shut rfl (fun K hK => ?_)
        have HI := Lib.hid hI
        clear hi hI hil
        try simp only [List.getElem_toArray, List.getElem_cons_succ, List.getElem_cons_zero]
        rw [if_pos (by rfl)]
        go_simp
        exact hK.out _ _ ⟨fun k => if k = 89 then .int .i64 mm else f k, HP.out 89 (.int .i64 mm) (by decide), HI.out.put HI.out.rr.self 9 (by omega) 89 rfl rfl⟩
      · refine wpOp_shut rfl (fun K hK => ?_)
        have h9 := hI.2 9 (by omega) (ready_need hi (by kernel_rfl)); simp only [BadP, Nat.reduceAdd] at h9
        have h3 := hI.2 3 (by omega) (ready_need hi (by kernel_rfl)); simp only [BadP, Nat.reduceAdd] at h3
        have HI := Lib.hid hI
        clear hi hI hil
        try simp only [List.getElem_toArray, List.getElem_cons_succ, List.getElem_cons_zero]
        rw [if_pos (by rfl)]
        go_simp
        go_at_call 15
        (with_reducible refine (pick12_as mm 6 (m : Int) P6 hmm.1 hmm.2 (by omega) (by omega) _).mono ?_)
        rintro e w' ⟨rfl, rfl⟩
        exact hK.out _ _ ⟨fun k => if k = 90 then .int .i64 (m : Int) else f k, HP.out 90 (.int .i64 (m : Int)) (by decide), HI.out.put HI.out.rr.self 10 (by omega) 90 rfl rfl⟩
      · refine wpOp_shut rfl (fun K hK => ?_)
        have h8 := hI.2 8 (by omega) (ready_need hi (by kernel_rfl)); simp only [BadP, Nat.reduceAdd] at h8
        obtain ⟨q8, y8, b8⟩ := h8
        have h10 := hI.2 10 (by omega) (ready_need hi (by kernel_rfl)); simp only [BadP, Nat.reduceAdd] at h10
        have lk : (m : Int) < 6 := by omega
        have HI := Lib.hid hI
        clear hi hI hil
        try simp only [List.getElem_toArray, List.getElem_cons_succ, List.getElem_cons_zero]
        rw [if_pos (by rfl)]
        go_simp
        exact hK.out _ _ ⟨fun k => if k = 91 then .pointer (some ⟨q8, m, none⟩) else f k, HP.out 91 (.pointer (some ⟨q8, m, none⟩)) (by decide), HI.out.put HI.out.rr.self 11 (by omega) 91 rfl ⟨q8, rfl, b8⟩⟩
      · refine wpOp_shut rfl (fun K hK => ?_)
        have h11 := hI.2 11 (by omega) (ready_need hi (by kernel_rfl)); simp only [BadP, Nat.reduceAdd] at h11
        obtain ⟨q11, y11, b11⟩ := h11
        have hc : wq.cell? ⟨q11, m, none⟩ = some (.string pr) := (b11.cell m).trans LP.out
        have HI := Lib.hid hI
        clear hi hI hil
        try simp only [List.getElem_toArray, List.getElem_cons_succ, List.getElem_cons_zero]
        rw [if_pos (by rfl)]
        go_simp
        exact hK.out _ _ ⟨fun k => if k = 92 then .string pr else f k, HP.out 92 (.string pr) (by decide), HI.out.put HI.out.rr.self 12 (by omega) 92 rfl rfl⟩
      · refine wpOp_shut rfl (fun K hK => ?_)
        have h0 := hI.2 0 (by omega) (ready_need hi (by kernel_rfl)); simp only [BadP, Nat.reduceAdd] at h0
        have h5 := hI.2 5 (by omega) (ready_need hi (by kernel_rfl)); simp only [BadP, Nat.reduceAdd] at h5
        have h6 := hI.2 6 (by omega) (ready_need hi (by kernel_rfl)); simp only [BadP, Nat.reduceAdd] at h6
        have h7 := hI.2 7 (by omega) (ready_need hi (by kernel_rfl)); simp only [BadP, Nat.reduceAdd] at h7
        have h12 := hI.2 12 (by omega) (ready_need hi (by kernel_rfl)); simp only [BadP, Nat.reduceAdd] at h12
        have HI := Lib.hid hI
        clear hi hI hil
        try simp only [List.getElem_toArray, List.getElem_cons_succ, List.getElem_cons_zero]
        rw [if_pos (by rfl)]
        go_simp
        exact hK.out _ _ ⟨fun k => if k = 93 then .slice (some ⟨wq.heap.size, 0, none⟩) 5 5 else f k, HP.out 93 (.slice (some ⟨wq.heap.size, 0, none⟩) 5 5) (by decide), HI.out.put (HI.out.rr.self.alloc _) 13 (by omega) 93 rfl ⟨_, rfl, Bk.new _ _ _⟩⟩
    · rintro l a1 wq ⟨f, ha, hI⟩ hl
      have h13 := hI.2 13 (by omega) (hl 13 (by omega) (by omega)); simp only [BadP, Nat.reduceAdd] at h13
      obtain ⟨q13, y13, b13⟩ := h13
      have HI := Lib.hid hI.1
      have HB := Lib.hid b13
      clear hI hl b13
      simp only [updM_cons, updM_nil, Act.put, List.setIfInBounds_toArray, List.set_cons_zero, List.set_cons_succ] at ha
      rw [y13] at ha
      subst ha
      refine wpOp_shut rfl (fun K hK => ?_)
      try simp only [List.getElem_toArray, List.getElem_cons_succ, List.getElem_cons_zero]
      rw [if_pos (by rfl)]
      go_simp
      refine hK.out _ _ ?_
      try simp only [Act.put, List.setIfInBounds_toArray, List.set_cons_zero, List.set_cons_succ]
      go_wp2_with (fail)
      go_meet
      exact ⟨_, q13, rfl, rfl, HI, HB⟩
  obtain ⟨V3, gb, rfl, rfl, G8, HS8⟩ := hcut
  have HF8 := Lib.hid (HF7.out.rel G8.out)
  have HB8 := Lib.hid (HB7.out.rel G8.out)
  obtain ⟨i0, hi0, hz0, hz1, hz2⟩ := info_parts str_info
  have HNw := Lib.hid (show ∀ (j : Nat) (u : Value), ([.string xa, .string ⟨#[55]⟩, .string xc, .string xd, .string PT] : List Value)[j]? = some u → V3.cell? ((⟨gf, 0, none⟩ : Addr).add j) = some u from World.news_of_block HF8.out)
  have HOne := Lib.hid (show ∀ v ∈ ([.string xa, .string ⟨#[55]⟩, .string xc, .string xd, .string PT] : List Value), v.oneCell' = true from by intro v hv; simp at hv; rcases hv with rfl | rfl | rfl | rfl | rfl <;> rfl)
  have HNil := Lib.hid (World.ownsRow_nil V3 V3.heap.size 9 1)
  go_upto_region 16 with (at_builtin; (refine wpList_append_lies _ rfl _ _ 33 rfl V3.heap.size 9 i0 (.string ⟨#[]⟩) 1 16 Tryd.underlying33 hi0 hz0 hz1 hz2 rfl (by decide) (.slice none 0 0) 0 [] rfl HNil.out ⟨gf, 0, none⟩ 5 5 [.string xa, .string ⟨#[55]⟩, .string xc, .string xd, .string PT] rfl rfl HNw.out HOne.out (by decide) (by unfold maxLen; decide) (by decide) (Nat.le_refl _) _ rfl ?_); intro g2 c2 w9 own2 gr2 at2 lt2; have HO2 := Lib.hid own2; have HG2 := Lib.hid gr2; have HA2 := Lib.hid at2; clear own2 gr2 at2)
  have hg2 : V3.heap.size ≤ g2 := by
    rcases HA2.out with h | h
    · simp [Value.ownBlock] at h
    · omega
  have G9 := Lib.hid (G8.out.grown HG2.out (fun q hq => by simp [Value.ownBlock] at hq))
  have R9 := Lib.hid (show Rel V3 w9 from G8.out.self2.grown HG2.out (fun q hq => by simp [Value.ownBlock] at hq))
  have HF9 := Lib.hid (HF8.out.rel R9.out)
  have HB9 := Lib.hid (HB8.out.rel R9.out)
  have HS9 := Lib.hid (HS8.out.rel R9.out)
  have HO3 := Lib.hid (show w9.ownsRow V3.heap.size 9 1 (.slice (some ⟨g2, 0, none⟩) 5 c2) 5 [.string xa, .string ⟨#[55]⟩, .string xc, .string xd, .string PT] from HO2.out)
  obtain ⟨Fl, hFl⟩ : ∃ F : Nat → List UInt8, F = fun i => (fsF f).getD i [] := ⟨_, rfl⟩
  obtain ⟨Gl, hGl⟩ : ∃ F : Nat → List UInt8, F = fun i => (gF f m k).getD i [] := ⟨_, rfl⟩
  have HFX : (#[.string xa, .string ⟨#[55]⟩, .string xc, .string xd, .string PT] : Array Value).toList = (fsF f).map (fun x => Value.string (B x)) := by
    rw [← QA.out, ← QC.out, ← QD.out, ← PQ.out, ← QP.out]; rfl
  have HBX : (#[.string nm, .string sq, .string nm, .string nm, .string pr] : Array Value).toList = (badF m).map (fun x => Value.string (B x)) := by
    rw [← QN.out, ← QS.out, ← QR.out]; rfl
  obtain ⟨Y, hY⟩ : ∃ Y, B ((badF m).getD k []) = Y := ⟨_, rfl⟩
  have at5 : ∀ (l : List (List UInt8)) (i : Nat), l.length = 5 → i < 5 → (l.map (fun x => Value.string (B x)))[i]? = some (.string (B (l.getD i []))) := fun l i hl hi => by
    rw [List.getElem?_map, List.getElem?_eq_getElem (by omega), List.getD_eq_getElem?_getD, List.getElem?_eq_getElem (by omega)]; rfl
  have cb : w9.cell? ⟨gb, k, none⟩ = some (.string Y) := by
    rw [HS9.out.cell k, ← Array.getElem?_toList, HBX, at5 _ k rfl k5, hY]
  have c2k : w9.cell? ⟨g2, k, none⟩ = some (.string (B (Fl k))) := by
    rw [HO3.out.cellAt k (by omega)]
    have e : ([.string xa, .string ⟨#[55]⟩, .string xc, .string xd, .string PT] : List Value) = (fsF f).map (fun x => Value.string (B x)) := HFX
    rw [e, at5 _ k rfl k5, hFl]
  have f2k : w9.frozen? ⟨g2, k, none⟩ = false := HO3.out.frozenAt k
  have HO4 := Lib.hid (HO3.out.stored k (.string Y)).1
  have HO4 := Lib.hid (show (w9.setCell ⟨g2, k, none⟩ (.string Y)).ownsRow V3.heap.size 9 1 (.slice (some ⟨g2, 0, none⟩) 5 c2) 5 ((gF f m k).map (fun x => Value.string (B x))) from by
    have e : ([.string xa, .string ⟨#[55]⟩, .string xc, .string xd, .string PT] : List Value).set k (.string Y) = (gF f m k).map (fun x => Value.string (B x)) := by
      unfold gF
      rw [List.map_set, hY]
      have e2 : ([.string xa, .string ⟨#[55]⟩, .string xc, .string xd, .string PT] : List Value) = (fsF f).map (fun x => Value.string (B x)) := HFX
      rw [e2]
    rw [← e]; exact HO4.out)
  have GF := Lib.hid hGl
  have FF := Lib.hid hFl
  clear HO2 HG2 HA2 HNw HOne HNil hFl hGl hY
  go_upto_block 2 with (fail)
  have n1 : gf ≠ g2 := by have := HF8.out.lt; omega
  have n2 : gl ≠ g2 := by have := HB8.out.lt; omega
  have HF10 := Lib.hid (HF9.out.far (p := ⟨g2, k, none⟩) n1 (.string Y))
  have HB10 := Lib.hid (HB9.out.far (p := ⟨g2, k, none⟩) n2 (.string Y))
  have G10 := Lib.hid (G9.out.setCell (p := ⟨g2, k, none⟩) (show V2.heap.size ≤ g2 by have := G8.out.size; omega) (.string Y))
  obtain ⟨W10, hW10⟩ : ∃ W, w9.setCell ⟨g2, k, none⟩ (.string Y) = W := ⟨_, rfl⟩
  rw [hW10] at HF10 HB10 G10 HO4
  try rw [hW10]
  clear hW10 cb c2k f2k
  have CG := Lib.hid (show ∀ i, i < 5 → W10.cell? ⟨g2, i, none⟩ = some (.string (B (Gl i))) from fun i hi => by rw [HO4.out.cellAt i (by omega), at5 _ i (g_len f m k) hi, GF.out])
  have CF := Lib.hid (show ∀ i, i < 5 → W10.cell? ⟨gf, i, none⟩ = some (.string (B (Fl i))) from fun i hi => by rw [HF10.out.cell i, ← Array.getElem?_toList, HFX, at5 _ i rfl hi, FF.out])
  have LG : ∀ i, i < 5 → (Gl i).length ≤ 16 := fun i hi => by rw [GF.out]; exact (g_clean RF.out m k m6 k5 i hi).2
  have LF : ∀ i, i < 5 → (Fl i).length ≤ 16 := fun i hi => by rw [FF.out]; exact (fs_ok RF.out i hi).2.2.1
  have JL := Lib.hid (jn_len Gl LG)
  have WL := Lib.hid (fw_len Fl k LF)
  have LG := Lib.hid LG
  have LF := Lib.hid LF
  clear HFX HBX at5
  go_wp2_with (fail)
  go_loopw [18, 19, 20] (fun a c i wr => ∃ (n : Nat) (A C : ByteArray), n ≤ 5 ∧ i = .int .i64 (n : Int) ∧ a = .string A ∧ c = .string C ∧ Hid (A = B (jnF Gl n)) ∧ Hid (C = B (fwF Fl k n)) ∧ W10 = wr) (fun _ _ i _ => 5 - (RowKit.intOf i).toNat)
  case atStart => exact ⟨0, _, _, by omega, rfl, rfl, rfl, Lib.hid rfl, Lib.hid rfl, by first | exact rfl | exact trivial⟩
  case round =>
    obtain ⟨n, A, C, hn, rfl, rfl, rfl, HJ, HW, hwr⟩ := hrel
    subst hwr
    by_cases hlt : n < 5
    · have cx := CG.out n hlt
      have cz := CF.out n hlt
      obtain ⟨X, hX⟩ : ∃ x, B (Gl n) = x := ⟨_, rfl⟩
      obtain ⟨Z, hZ⟩ : ∃ x, B (Fl n) = x := ⟨_, rfl⟩
      rw [hX] at cx
      rw [hZ] at cz
      have zA : A.size ≤ 85 := by rw [HJ.out, B_size]; have := JL.out n (by omega); omega
      have zC : C.size ≤ 85 := by rw [HW.out, B_size]; have := WL.out n (by omega); omega
      have zX : X.size ≤ 16 := by rw [← hX, B_size]; exact LG.out n hlt
      have zZ : Z.size ≤ 16 := by rw [← hZ, B_size]; exact LF.out n hlt
      have QX := Lib.hid hX
      have QZ := Lib.hid hZ
      clear hX hZ
      by_cases h0 : 0 < n
      · have h0' : (0 : Int) < (n : Int) := by omega
        by_cases hnk : n = k
        · have nk1 : ((n : Int) != (k : Int)) = false := by simp; omega
          have nk2 : (n != k) = false := by simp; omega
          have HE := Lib.hid hnk
          clear hnk
          have hnk := HE.out
          clear hnk
          obtain ⟨A1, e1⟩ : ∃ x, A ++ (⟨#[32]⟩ : ByteArray) = x := ⟨_, rfl⟩
          obtain ⟨A2, e2⟩ : ∃ x, A1 ++ X = x := ⟨_, rfl⟩
          have z1 : A1.size ≤ 86 := by rw [← e1, ByteArray.size_append]; show A.size + 1 ≤ 86; omega
          have HA2 := Lib.hid (show A2 = B (jnF Gl (n + 1)) from by rw [← e2, ← e1, HJ.out, ← QX.out, show (⟨#[32]⟩ : ByteArray) = B [32] from rfl, B_append, B_append, jnF, if_pos h0])
          have g1 : ¬ 9223372036854775807 < A.size + 1 := by omega
          have g2' : ¬ 9223372036854775807 < A1.size + X.size := by omega
          have HC2 := Lib.hid (show C = B (fwF Fl k (n + 1)) from by rw [fwF, if_pos HE.out]; exact HW.out)
          clear HJ HW QX QZ
          go_wp2_with (fail)
          go_roundw
          case rel => exact ⟨n + 1, _, _, by omega, by go_num, rfl, rfl, HA2, HC2, by first | exact rfl | exact trivial⟩
          case measure => simp [RowKit.intOf]; omega
        · have nk1 : ((n : Int) != (k : Int)) = true := by simp; omega
          have nk2 : (n != k) = true := by simp; omega
          by_cases hC : fwF Fl k n = []
          · have hC0 : C = ⟨#[]⟩ := by rw [HW.out, hC]; rfl
            subst hC0
            obtain ⟨A1, e1⟩ : ∃ x, A ++ (⟨#[32]⟩ : ByteArray) = x := ⟨_, rfl⟩
            obtain ⟨A2, e2⟩ : ∃ x, A1 ++ X = x := ⟨_, rfl⟩
            have z1 : A1.size ≤ 86 := by rw [← e1, ByteArray.size_append]; show A.size + 1 ≤ 86; omega
            have HA2 := Lib.hid (show A2 = B (jnF Gl (n + 1)) from by rw [← e2, ← e1, HJ.out, ← QX.out, show (⟨#[32]⟩ : ByteArray) = B [32] from rfl, B_append, B_append, jnF, if_pos h0])
            have g1 : ¬ 9223372036854775807 < A.size + 1 := by omega
            have g2' : ¬ 9223372036854775807 < A1.size + X.size := by omega
            have e3 : (⟨#[]⟩ : ByteArray) ++ Z = Z := emp_app Z
            have HC2 := Lib.hid (show Z = B (fwF Fl k (n + 1)) from by rw [fwF, if_neg (by omega), if_pos hC, hC, ← QZ.out]; rfl)
            clear HJ HW QX QZ hC
            go_wp2_with (fail)
            go_roundw
            case rel => exact ⟨n + 1, _, _, by omega, by go_num, rfl, rfl, HA2, HC2, by first | exact rfl | exact trivial⟩
            case measure => simp [RowKit.intOf]; omega
          · skip
            obtain ⟨A1, e1⟩ : ∃ x, A ++ (⟨#[32]⟩ : ByteArray) = x := ⟨_, rfl⟩
            obtain ⟨A2, e2⟩ : ∃ x, A1 ++ X = x := ⟨_, rfl⟩
            have z1 : A1.size ≤ 86 := by rw [← e1, ByteArray.size_append]; show A.size + 1 ≤ 86; omega
            have HA2 := Lib.hid (show A2 = B (jnF Gl (n + 1)) from by rw [← e2, ← e1, HJ.out, ← QX.out, show (⟨#[32]⟩ : ByteArray) = B [32] from rfl, B_append, B_append, jnF, if_pos h0])
            have g1 : ¬ 9223372036854775807 < A.size + 1 := by omega
            have g2' : ¬ 9223372036854775807 < A1.size + X.size := by omega
            obtain ⟨C1, e3⟩ : ∃ x, C ++ (⟨#[32]⟩ : ByteArray) = x := ⟨_, rfl⟩
            obtain ⟨C2, e4⟩ : ∃ x, C1 ++ Z = x := ⟨_, rfl⟩
            have z3 : C1.size ≤ 86 := by rw [← e3, ByteArray.size_append]; show C.size + 1 ≤ 86; omega
            have HC2 := Lib.hid (show C2 = B (fwF Fl k (n + 1)) from by rw [← e4, ← e3, HW.out, ← QZ.out, show (⟨#[32]⟩ : ByteArray) = B [32] from rfl, B_append, B_append, fwF, if_neg hnk, if_neg hC])
            have g3 : ¬ 9223372036854775807 < C.size + 1 := by omega
            have g4 : ¬ 9223372036854775807 < C1.size + Z.size := by omega
            have q1 : ¬ C.toList = [] := fun e => hC (by have := B_toList (fwF Fl k n); rw [← HW.out, e] at this; exact this.symm)
            have q2 : (C.toList == []) = false := by simpa using q1
            have q3 : C.toList.isEmpty = false := by simpa using q1
            clear HJ HW QX QZ hC
            go_wp2_with (fail)
            go_roundw
            case rel => exact ⟨n + 1, _, _, by omega, by go_num, rfl, rfl, HA2, HC2, by first | exact rfl | exact trivial⟩
            case measure => simp [RowKit.intOf]; omega
      · obtain rfl : n = 0 := by omega
        have hA0 : A = ⟨#[]⟩ := by rw [HJ.out]; rfl
        have hC0 : C = ⟨#[]⟩ := by rw [HW.out]; rfl
        subst hA0
        subst hC0
        by_cases hnk : 0 = k
        · have nk1 : ((0 : Int) != (k : Int)) = false := by simp; omega
          have HE := Lib.hid hnk
          clear hnk
          have e1 : (⟨#[]⟩ : ByteArray) ++ X = X := emp_app X
          have HA2 := Lib.hid (show X = B (jnF Gl (0 + 1)) from by rw [jnF, if_neg (by omega), ← QX.out]; rfl)
          have HC2 := Lib.hid (show ⟨#[]⟩ = B (fwF Fl k (0 + 1)) from by rw [fwF, if_pos HE.out]; rfl)
          clear HJ HW QX QZ
          go_wp2_with (fail)
          go_roundw
          case rel => exact ⟨0 + 1, _, _, by omega, by go_num, rfl, rfl, HA2, HC2, by first | exact rfl | exact trivial⟩
          case measure => simp [RowKit.intOf]
        · have nk1 : ((0 : Int) != (k : Int)) = true := by simp; omega
          have nk3 : ¬ k = 0 := by omega
          have e1 : (⟨#[]⟩ : ByteArray) ++ X = X := emp_app X
          have HA2 := Lib.hid (show X = B (jnF Gl (0 + 1)) from by rw [jnF, if_neg (by omega), ← QX.out]; rfl)
          have e3 : (⟨#[]⟩ : ByteArray) ++ Z = Z := emp_app Z
          have HC2 := Lib.hid (show Z = B (fwF Fl k (0 + 1)) from by rw [fwF, if_neg (by omega), if_pos (show fwF Fl k 0 = [] from rfl), (show fwF Fl k 0 = [] from rfl), ← QZ.out]; rfl)
          clear HJ HW QX QZ
          go_wp2_with (fail)
          go_roundw
          case rel => exact ⟨0 + 1, _, _, by omega, by go_num, rfl, rfl, HA2, HC2, by first | exact rfl | exact trivial⟩
          case measure => simp [RowKit.intOf]
    · obtain rfl : n = 5 := by omega
      have hj := dec_join RF.out m k m6 k5
      have hw := fw_dec RF.out k k5
      have hm := dec_more RF.out m k m6 k5
      have ej : jnF Gl 5 = joinF (gF f m k) := by rw [GF.out]; exact jn_all _ (g_len f m k)
      rw [ej] at HJ
      have ew : decF (fwF Fl k 5) = .error (111, 0) := by rw [FF.out]; exact hw
      have lj : (joinF (gF f m k)).length ≤ 85 := by rw [← ej]; exact JL.out 5 (by omega)
      have lw : (fwF Fl k 5).length ≤ 85 := WL.out 5 (by omega)
      have zA : A.size ≤ 85 := by rw [HJ.out, B_size]; exact lj
      obtain ⟨AX, e1⟩ : ∃ x, A ++ (⟨#[32, 120]⟩ : ByteArray) = x := ⟨_, rfl⟩
      have g1 : ¬ 9223372036854775807 < A.size + 2 := by omega
      have hAX : B (joinF (gF f m k) ++ [32, 120]) = AX := by rw [← e1, HJ.out, show (⟨#[32, 120]⟩ : ByteArray) = B [32, 120] from rfl, B_append]
      have HD1 := Lib.hid (fun (w1 : World) (hr1 : Rel w1 w1) => dec_at HH.out _ A HJ.out.symm (by omega) (.agg #[.string ⟨#[]⟩, .int .i64 0, .string ⟨#[]⟩, .string ⟨#[]⟩, .int .i64 0]) (by rw [(decV_bad hj).1]; rfl) 112 (k : Int) (decV_bad hj).2.1 (decV_bad hj).2.2 w1 hr1)
      have HD2 := Lib.hid (fun (w1 : World) (hr1 : Rel w1 w1) => dec_at HH.out _ C HW.out.symm (by omega) (.agg #[.string ⟨#[]⟩, .int .i64 0, .string ⟨#[]⟩, .string ⟨#[]⟩, .int .i64 0]) (by rw [(decV_bad ew).1]; rfl) 111 0 (decV_bad ew).2.1 (decV_bad ew).2.2 w1 hr1)
      have HD3 := Lib.hid (fun (w1 : World) (hr1 : Rel w1 w1) => dec_at HH.out _ AX hAX (by rw [List.length_append]; simp only [List.length_cons, List.length_nil]; omega) (.agg #[.string ⟨#[]⟩, .int .i64 0, .string ⟨#[]⟩, .string ⟨#[]⟩, .int .i64 0]) (by rw [(decV_bad hm).1]; rfl) 111 0 (decV_bad hm).2.1 (decV_bad hm).2.2 w1 hr1)
      have HNm := Lib.hid (show ∀ w1 : World, Rel w1 w1 → Calls Tryd.prog 18 #[.string xd] w1 fun r w' => r = .returned (.bool true) ∧ Rel w1 w' from fun w1 h1 => by
        obtain ⟨_, _, nd, _⟩ := rightF_iff.1 RF.out
        have ln := name_len nd
        have := rname_list f.2.2.2.1 (by omega) w1 w1 h1
        rw [nd, QD.out] at this
        exact this)
      have EQ := zero_is
      clear hj hw hm ej ew lj lw hAX HJ HW
      go_upto_region 32 with (first
        | (go_at_call 16; (with_reducible refine (HD1.out _ G10.out.self).mono ?_); rintro e0 w4 ⟨rfl, h4⟩; have D4 := Lib.hid ((h4).alloc (.cells #[.string ⟨#[]⟩, .int .i64 0, .string ⟨#[]⟩, .string ⟨#[]⟩, .int .i64 0] 23)); have HZ4 := Lib.hid (Bk.new w4 23 #[.string ⟨#[]⟩, .int .i64 0, .string ⟨#[]⟩, .string ⟨#[]⟩, .int .i64 0]); have HL4 := Lib.hid ((HB10.out.rel h4).alloc (.cells #[.string ⟨#[]⟩, .int .i64 0, .string ⟨#[]⟩, .string ⟨#[]⟩, .int .i64 0] 23)); clear h4)
        | (go_at_call 16; (with_reducible refine (HD2.out _ D4.out.self).mono ?_); rintro e0 w5 ⟨rfl, h5⟩; have D5 := Lib.hid ((D4.out.trans h5).alloc (.cells #[.string ⟨#[]⟩, .int .i64 0, .string ⟨#[]⟩, .string ⟨#[]⟩, .int .i64 0] 23)); have HZ5 := Lib.hid ((HZ4.out.rel h5).alloc (.cells #[.string ⟨#[]⟩, .int .i64 0, .string ⟨#[]⟩, .string ⟨#[]⟩, .int .i64 0] 23)); have HL5 := Lib.hid ((HL4.out.rel h5).alloc (.cells #[.string ⟨#[]⟩, .int .i64 0, .string ⟨#[]⟩, .string ⟨#[]⟩, .int .i64 0] 23)); clear h5)
        | (go_at_call 16; (with_reducible refine (HD3.out _ D5.out.self).mono ?_); rintro e0 w6 ⟨rfl, h6⟩; have D6 := Lib.hid ((D5.out.trans h6).alloc (.cells #[.string ⟨#[]⟩, .int .i64 0, .string ⟨#[]⟩, .string ⟨#[]⟩, .int .i64 0] 23)); have HZ6 := Lib.hid ((HZ5.out.rel h6).alloc (.cells #[.string ⟨#[]⟩, .int .i64 0, .string ⟨#[]⟩, .string ⟨#[]⟩, .int .i64 0] 23)); have HL6 := Lib.hid ((HL5.out.rel h6).alloc (.cells #[.string ⟨#[]⟩, .int .i64 0, .string ⟨#[]⟩, .string ⟨#[]⟩, .int .i64 0] 23)); clear h6))
      obtain ⟨⟨a0, a1, a2, a3, a4⟩, _⟩ := five_of HZ6.out
      obtain ⟨⟨b0, b1, b2, b3, b4⟩, _⟩ := five_of HL6.out
      go_wp2_with (go_at_call 18; (with_reducible refine (HNm.out _ D6.out.self).mono ?_); rintro e0 w7 ⟨rfl, h7⟩; have D7 := Lib.hid (D6.out.trans h7); clear h7)
      go_ret
      exact ⟨by simp, (((HA0.out.trans G3.out).trans G7.out).trans G10.out).trans D7.out⟩
end Go.Proofs.YtkpgplafcoabnaaDoor
