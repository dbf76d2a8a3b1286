/- The document's own answers of layer 12: number, price, may a line be; The document's own answers of layer 12: a line's fields. -/
import Derived.Test.YtkpgplafcoabnaaDoorZL
import Derived.Test.YtkpgplafcoabnaaDoorZ00
import Derived.Test.YtkpgplafcoabnaaDoorZ01
import Derived.Test.YtkpgplafcoabnaaDoorZ19
import Derived.Test.YtkpgplafcoabnaaDoorZ28
namespace Go.Proofs.YtkpgplafcoabnaaDoor
open Go.RowKit Go.Lib
set_option linter.unusedVariables false
set_option linter.unusedSimpArgs false
theorem bl_yes {x l : List UInt8} (h : x = l) : ((B x).toList == l) = true := by rw [B_toList]; simpa using h
theorem bl_no {x l : List UInt8} (h : x ≠ l) : ((B x).toList == l) = false := by rw [B_toList]; simpa using h
set_option maxRecDepth 100000 in
set_option maxHeartbeats 4000000 in
theorem rfseq_any (l : List UInt8) (hl : l.length ≤ 9223372036854775807) (w0 w : World) (hr : Rel w0 w) :
    Calls Tryd.prog 29 #[.string (B l)] w fun r w' => r = .returned (.int .i64 (seqF l)) ∧ Rel w0 w' := by
  have HC := Lib.hid (rcount_list l 1000000000000 hl w0 w hr)
  unfold seqF
  generalize cnt l 1000000000000 = n at *
  clear hr
  by_cases h : n < 1
  · rw [if_pos h]
    go_enter Tryd.func29, Tryd.ntmps29
    go_wp2_with (go_at_call 48; (with_reducible refine HC.out.mono ?_); rintro e w1 ⟨rfl, h1⟩)
    go_ret
    exact ⟨rfl, h1⟩
  · rw [if_neg h]
    have h' : 1 ≤ n := by omega
    go_enter Tryd.func29, Tryd.ntmps29
    go_wp2_with (go_at_call 48; (with_reducible refine HC.out.mono ?_); rintro e w1 ⟨rfl, h1⟩)
    go_ret
    exact ⟨rfl, h1⟩
set_option maxRecDepth 100000 in
set_option maxHeartbeats 4000000 in
theorem rfprice_any (l : List UInt8) (hl : l.length ≤ 9223372036854775807) (w0 w : World) (hr : Rel w0 w) :
    Calls Tryd.prog 30 #[.string (B l)] w fun r w' => r = .returned (.int .i64 (priceF l)) ∧ Rel w0 w' := by
  have HR := Lib.hid hr
  have HC := Lib.hid (rparse_list l hl w0 w hr)
  unfold priceF
  clear hr
  by_cases hg : l = goneL
  · rw [if_pos hg]
    have hb := bl_yes (show l = [103, 111, 110, 101] from hg)
    clear hg HC
    go_enter Tryd.func30, Tryd.ntmps30
    go_wp2_with (fail)
    go_ret
    exact ⟨rfl, HR.out⟩
  · rw [if_neg hg]
    have hb := bl_no (show l ≠ [103, 111, 110, 101] from hg)
    clear hg
    cases hp : prs l with
    | none =>
      have e1 : prs1 l = 0 := by unfold prs1; rw [hp]; rfl
      have e2 : prs2 l = 20 := by unfold prs2; rw [hp]; rfl
      rw [e1, e2] at HC
      unfold Two at HC
      clear hp e1 e2
      go_enter Tryd.func30, Tryd.ntmps30
      go_wp2_with (go_at_call 49; (with_reducible refine HC.out.mono ?_); rintro e w1 ⟨rfl, h1⟩)
      go_ret
      exact ⟨rfl, h1⟩
    | some n =>
      have e1 : prs1 l = n := by unfold prs1; rw [hp]; rfl
      have e2 : prs2 l = 0 := by unfold prs2; rw [hp]; rfl
      rw [e1, e2] at HC
      unfold Two at HC
      clear hp e1 e2
      simp only
      by_cases h : n < 1
      · rw [if_pos h]
        go_enter Tryd.func30, Tryd.ntmps30
        go_wp2_with (go_at_call 49; (with_reducible refine HC.out.mono ?_); rintro e w1 ⟨rfl, h1⟩)
        go_ret
        exact ⟨rfl, h1⟩
      · rw [if_neg h]
        have h' : 1 ≤ n := by omega
        go_enter Tryd.func30, Tryd.ntmps30
        go_wp2_with (go_at_call 49; (with_reducible refine HC.out.mono ?_); rintro e w1 ⟨rfl, h1⟩)
        go_ret
        exact ⟨rfl, h1⟩
end Go.Proofs.YtkpgplafcoabnaaDoor

namespace Go.Proofs.YtkpgplafcoabnaaDoor
open Go.RowKit Go.Lib
set_option linter.unusedVariables false
set_option linter.unusedSimpArgs false
theorem FI.more {s : List UInt8} {i f : Nat} {out : List (List UInt8)} (h : FI s i f out) (hi : i < s.length) (hc : s[i] ≠ 32) : FI s (i + 1) f out := by
  rcases h with ⟨h1, h2, h3⟩ | ⟨h1, _⟩
  · refine .inl ⟨hi, by omega, ?_⟩
    rw [List.drop_eq_getElem_cons hi, fieldsG, if_neg hc] at h3
    rw [← h3]
    congr 2
    rw [show i + 1 - f = (i - f) + 1 by omega, List.take_add_one, List.getElem?_drop, show f + (i - f) = i by omega, List.getElem?_eq_getElem hi]
    rfl
  · omega
theorem FI.last {s : List UInt8} {f : Nat} {out : List (List UInt8)} (h : FI s s.length f out) : FI s (s.length + 1) (s.length + 1) (out ++ [(s.drop f).take (s.length - f)]) := by
  rcases h with ⟨h1, h2, h3⟩ | ⟨h1, _⟩
  · refine .inr ⟨rfl, ?_⟩
    rw [List.drop_length, fieldsG] at h3
    exact h3
  · omega
theorem B_sub (s : List UInt8) (f i : Nat) : (B s).extract f i = B ((s.drop f).take (i - f)) := by
  apply ByteArray.ext
  apply Array.ext'
  simp [B, List.extract_eq_take_drop]
theorem SlOwn.more {w : World} {base g c L : Nat} {l : List (List UInt8)} {x : List UInt8} (hL : l.length = L) (h : w.ownsRow base 9 1 (.slice (some ⟨g, 0, none⟩) (L + 1) c) (L + 1) (l.map (fun x => .string (B x)) ++ [.string (B x)])) : SlOwn w base (.slice (some ⟨g, 0, none⟩) (L + 1) c) (l ++ [x]) := by
  subst hL
  unfold SlOwn
  rw [show (l ++ [x]).length = l.length + 1 by simp, show (l ++ [x]).map (fun x => Value.string (B x)) = l.map (fun x => .string (B x)) ++ [.string (B x)] by simp]
  exact h
set_option maxRecDepth 100000 in
set_option maxHeartbeats 4000000 in
theorem rffields_any (s : List UInt8) (hs : s.length ≤ 100) (w0 w : World) (hr : Rel w0 w) :
    Calls Tryd.prog 28 #[.string (B s)] w fun r w' => ∃ A c, r = .returned (.slice A (fieldsF s).length c) ∧ SlOwn w' w.heap.size (.slice A (fieldsF s).length c) (fieldsF s) ∧ Rel w w' := by
  have HS := Lib.hid hr.self
  have HB := B_size s
  obtain ⟨n, hn⟩ : ∃ n, s.length = n := ⟨_, rfl⟩
  have HN := Lib.hid hn
  rw [hn] at HB hs
  obtain ⟨i0, hi0, hz0, hz1, hz2⟩ := info_parts str_info
  clear hr hn
  go_enter Tryd.func28, Tryd.ntmps28
  go_wp2_with (fail)
  go_loopw [3, 4, 5] (fun o f i wr => ∃ (j k L : Nat) (out : List (List UInt8)) (A : Option Addr) (c : Nat), o = .slice A L c ∧ j ≤ n + 1 ∧ k ≤ j ∧ L ≤ j ∧ Hid (out.length = L) ∧ f = .int .i64 (k : Int) ∧ i = .int .i64 (j : Int) ∧ Hid (FI s j k out) ∧ Hid (SlOwn wr w.heap.size (.slice A L c) out) ∧ Hid (Rel w wr)) (fun _ _ i _ => n + 2 - (RowKit.intOf i).toNat)
  case atStart => exact ⟨0, 0, 0, [], none, 0, rfl, by omega, Nat.le_refl _, Nat.le_refl _, Lib.hid rfl, rfl, rfl, Lib.hid (FI.start s), Lib.hid (SlOwn.nil _ _), HS⟩
  case round =>
    obtain ⟨j, k, L, out, A, c, rfl, hj, hk, hL, HL, rfl, rfl, HI, HO, HR⟩ := hrel
    rcases Nat.lt_or_ge j n with hlt | hge
    · have hlt' : j < s.length := by rw [HN.out]; exact hlt
      obtain ⟨x, hx⟩ : ∃ x, x = s[j] := ⟨_, rfl⟩
      have hg : ∀ h, (B s)[j]'h = x := fun h => by rw [hx]; rfl
      by_cases h32 : x = 32
      · have hI := Lib.hid (HI.out.cut hlt' (by rw [← hx]; exact h32))
        have he := B_sub s k j
        obtain ⟨P, hP⟩ : ∃ P, (s.drop k).take (j - k) = P := ⟨_, rfl⟩
        rw [hP] at he hI
        have hb : ((x.toNat : Int) == 32) = true := by rw [h32]; decide
        have HNw := Lib.hid (show ∀ (q : Nat) (u : Value), ([.string (B P)] : List Value)[q]? = some u → (wr.alloc (.cells #[.string (B P)] 9)).cell? ((⟨wr.heap.size, 0, none⟩ : Addr).add q) = some u from World.news_of_block (Bk.new wr 9 #[.string (B P)]))
        have HRow := Lib.hid (show (wr.alloc (.cells #[.string (B P)] 9)).ownsRow w.heap.size 9 1 (.slice A L c) L (out.map fun x => .string (B x)) from by have := HO.out.row; rw [HL.out] at this; exact World.ownsRow.alloc this _)
        have hsz : w.heap.size ≤ (wr.alloc (.cells #[.string (B P)] 9)).heap.size := by rw [World.size_alloc]; have := HR.out.size; omega
        clear hx hP h32
        go_wp2_with (at_builtin; (refine wpList_append_lies _ rfl _ _ 33 rfl w.heap.size 9 i0 (.string ⟨#[]⟩) 1 16 Tryd.underlying33 hi0 hz0 hz1 hz2 rfl (by decide) (.slice A L c) L (out.map fun x => .string (B x)) rfl HRow.out ⟨wr.heap.size, 0, none⟩ 1 1 [.string (B P)] rfl rfl HNw.out (by intro u hu; simp at hu; subst hu; rfl) (by decide) (by unfold maxLen; omega) (by omega) hsz _ rfl ?_); intro g c2 w2 own2 gr2 at2 lt2; have HO2 := Lib.hid own2; have HG2 := Lib.hid gr2; clear own2 gr2)
        go_roundw
        case rel => exact ⟨j + 1, j + 1, L + 1, out ++ [P], _, c2, rfl, by omega, Nat.le_refl _, by omega, Lib.hid (by rw [List.length_append, HL.out]; rfl), by go_num, by go_num, hI, Lib.hid (SlOwn.more HL.out HO2.out), Lib.hid ((HR.out.alloc _).grown HG2.out (fun q hq => (HRow.out.lt q hq).1))⟩
        case measure => simp [RowKit.intOf]; omega
      · have hI := Lib.hid (HI.out.more hlt' (by rw [← hx]; exact h32))
        have hb : ((x.toNat : Int) == 32) = false := by
          have : x.toNat ≠ 32 := fun e => h32 (UInt8.toNat_inj.1 e)
          simp; omega
        clear hx h32
        go_wp2_with (fail)
        go_roundw
        case rel => exact ⟨j + 1, k, L, out, A, c, rfl, by omega, by omega, by omega, HL, rfl, by go_num, hI, HO, HR⟩
        case measure => simp [RowKit.intOf]; omega
    · rcases Nat.lt_or_ge n j with h2 | h2
      · obtain rfl : j = n + 1 := by omega
        have hfin : out = fieldsF s := by
          rcases HI.out with ⟨h1, _⟩ | ⟨_, h1⟩
          · rw [HN.out] at h1; omega
          · exact h1
        have HF := Lib.hid hfin
        have HLn := Lib.hid (show (fieldsF s).length = L by rw [← hfin]; exact HL.out)
        clear hfin
        go_wp2_with (fail)
        go_ret
        exact ⟨A, c, by (rw [HLn.out]; try rfl), by rw [HLn.out]; have := HO.out; rw [HF.out] at this; exact this, HR.out⟩
      · obtain rfl : j = n := by omega
        have hI := Lib.hid (show FI s (j + 1) (j + 1) (out ++ [(s.drop k).take (j - k)]) from by have := HI.out; rw [← HN.out] at this ⊢; exact this.last)
        have he := B_sub s k j
        obtain ⟨P, hP⟩ : ∃ P, (s.drop k).take (j - k) = P := ⟨_, rfl⟩
        rw [hP] at he hI
        have HNw := Lib.hid (show ∀ (q : Nat) (u : Value), ([.string (B P)] : List Value)[q]? = some u → (wr.alloc (.cells #[.string (B P)] 9)).cell? ((⟨wr.heap.size, 0, none⟩ : Addr).add q) = some u from World.news_of_block (Bk.new wr 9 #[.string (B P)]))
        have HRow := Lib.hid (show (wr.alloc (.cells #[.string (B P)] 9)).ownsRow w.heap.size 9 1 (.slice A L c) L (out.map fun x => .string (B x)) from by have := HO.out.row; rw [HL.out] at this; exact World.ownsRow.alloc this _)
        have hsz : w.heap.size ≤ (wr.alloc (.cells #[.string (B P)] 9)).heap.size := by rw [World.size_alloc]; have := HR.out.size; omega
        clear hP
        go_wp2_with (at_builtin; (refine wpList_append_lies _ rfl _ _ 33 rfl w.heap.size 9 i0 (.string ⟨#[]⟩) 1 16 Tryd.underlying33 hi0 hz0 hz1 hz2 rfl (by decide) (.slice A L c) L (out.map fun x => .string (B x)) rfl HRow.out ⟨wr.heap.size, 0, none⟩ 1 1 [.string (B P)] rfl rfl HNw.out (by intro u hu; simp at hu; subst hu; rfl) (by decide) (by unfold maxLen; omega) (by omega) hsz _ rfl ?_); intro g c2 w2 own2 gr2 at2 lt2; have HO2 := Lib.hid own2; have HG2 := Lib.hid gr2; clear own2 gr2)
        go_roundw
        case rel => exact ⟨j + 1, j + 1, L + 1, out ++ [P], _, c2, rfl, by omega, Nat.le_refl _, by omega, Lib.hid (by rw [List.length_append, HL.out]; rfl), by go_num, by go_num, hI, Lib.hid (SlOwn.more HL.out HO2.out), Lib.hid ((HR.out.alloc _).grown HG2.out (fun q hq => (HRow.out.lt q hq).1))⟩
        case measure => simp [RowKit.intOf]
end Go.Proofs.YtkpgplafcoabnaaDoor
