/- The program's Scan. -/
import Derived.Test.YtjbbfcomgglhiaaDoorTellLeaf
namespace Go.Proofs.YtjbbfcomgglhiaaDoor
open Go.RowKit
open Go.Lib hiding intOf
set_option linter.unusedVariables false
set_option linter.unusedSimpArgs false

/-- How far a reader is. -/
def farAt (b : Nat) (w : World) : Nat := match w.cell? ⟨b, 1, none⟩ with
  | some (.int .i64 n) => n.toNat
  | _ => 0
theorem farAt_eq {w : World} {b base p : Nat} {s : ByteArray} {es : List ((Int × List Int × ByteArray) × Option Addr × Nat)} (h : Reader w b base p s es) : farAt b w = p := by
  obtain ⟨A, c, h1, _⟩ := h
  unfold farAt
  rw [h1.three.1.2.1]
  simp
theorem tell_no (b base p : Nat) (s : ByteArray) (F : List UInt8) (hF : 4 ≤ F.length) (hF2 : F.length ≤ 70000) (es : List ((Int × List Int × ByteArray) × Option Addr × Nat)) (hes : es.length ≤ 2000000) (hp : p ≤ 2000000) (w0 w : World) (hr : Rel w0 w) (hb0 : w0.heap.size ≤ b) (hbase : w0.heap.size ≤ base) (hbw : base ≤ w.heap.size) (hR : Hid (Reader w b base p s es)) (hg : Hid (frGood F = none)) :
    Calls Tryd.prog 35 #[.pointer (some ⟨b, 0, none⟩), .string (B F)] w fun e w' => e = .returned (.bool false) ∧ Reader w' b base p s es ∧ Rel w0 w' := by
  refine (tell_any b base p s F hF hF2 es hes hp w0 w hr hb0 hbase hbw hR).mono ?_
  rintro e w' (⟨h1, _, h3, h4⟩ | ⟨_, x, h2, _⟩)
  · exact ⟨h1, h3, h4⟩
  · rw [hg.out] at h2; cases h2
theorem tell_yes (b base p : Nat) (s : ByteArray) (F : List UInt8) (hF : 4 ≤ F.length) (hF2 : F.length ≤ 70000) (es : List ((Int × List Int × ByteArray) × Option Addr × Nat)) (hes : es.length ≤ 2000000) (hp : p ≤ 2000000) (w0 w : World) (hr : Rel w0 w) (hb0 : w0.heap.size ≤ b) (hbase : w0.heap.size ≤ base) (hbw : base ≤ w.heap.size) (hR : Hid (Reader w b base p s es)) (r : Int × List Int × List UInt8) (hg : Hid (frGood F = some r)) :
    Calls Tryd.prog 35 #[.pointer (some ⟨b, 0, none⟩), .string (B F)] w fun e w' => e = .returned (.bool true) ∧ ∃ x, frGood F = some (pure3 x.1) ∧ Reader w' b base (p + F.length) s (es ++ [x]) ∧ Rel w0 w' ∧ base ≤ w'.heap.size := by
  refine (tell_any b base p s F hF hF2 es hes hp w0 w hr hb0 hbase hbw hR).mono ?_
  rintro e w' (⟨_, h2, _⟩ | ⟨h1, x, h2, h3, h4⟩)
  · rw [hg.out] at h2; cases h2
  · refine ⟨h1, x, h2, h3, h4, ?_⟩
    obtain ⟨A, c, _, h5, _⟩ := h3
    rcases h5.2 with ⟨_, h0⟩ | ⟨g, cap, cur, _, h6, h7, _⟩
    · simp at h0
    · have : g < w'.heap.size := (Array.getElem?_eq_some_iff.1 h7).1
      omega
/-- What read answers. -/
def ReadPost (b base : Nat) (s : ByteArray) (w0 : World) (e : Ending) (w' : World) : Prop :=
  ∃ (p : Nat) (es : List ((Int × List Int × ByteArray) × Option Addr × Nat)) (err : Int), e = .returned (.int .i64 err) ∧ Reader w' b base p s es ∧ Rel w0 w' ∧ ((err = 0 ∧ frScan s.data.toList = (recOf es, p, true)) ∨ (err = 40 ∧ frScan s.data.toList = (recOf es, p, false)))
set_option maxRecDepth 100000 in
set_option maxHeartbeats 4000000 in
theorem read_any (b base : Nat) (s : ByteArray) (hs : s.size ≤ 2000000) (w0 w : World) (hr : Rel w0 w) (hb0 : w0.heap.size ≤ b) (hbase : w0.heap.size ≤ base) (hbw : base ≤ w.heap.size) (hR : Hid (Reader w b base 0 s [])) :
    Calls Tryd.prog 27 #[.pointer (some ⟨b, 0, none⟩)] w (ReadPost b base s w0) := by
  have el := Lib.hid (show s.data.toList.length = s.size by simp)
  have HR := Lib.hid hr
  clear hr
  go_enter Tryd.func27, Tryd.ntmps27
  go_wp2
  go_step3
  go_wp2
  go_step3
  go_wp2
  go_loopw [] (fun wr => ∃ (p : Nat) (es : List ((Int × List Int × ByteArray) × Option Addr × Nat)), p ≤ s.size ∧ es.length ≤ p ∧ Hid (Reader wr b base p s es) ∧ Rel w0 wr ∧ base ≤ wr.heap.size ∧ Hid (ScanAt s.data.toList p es)) (fun wr => s.size - farAt b wr)
  case atStart => exact ⟨0, [], by omega, by simp, hR, HR.out, hbw, Lib.hid (ScanAt.start _)⟩
  case round =>
    obtain ⟨p, es, hp, hes, HRd, hR2, hbw2, HS⟩ := hrel
    have hS2 := Lib.hid hR2.self
    have HR2 := Lib.hid hR2
    have hlen : (s.data.toList.drop p).length = s.size - p := by rw [List.length_drop, el.out]
    obtain ⟨L, hL⟩ : ∃ L, s.data.toList.drop p = L := ⟨_, rfl⟩
    obtain ⟨A, c, hbk, hel⟩ := HRd.out
    have HB := Lib.hid hbk
    clear hbk hel
    by_cases h : L.length < frLn L + 4
    · have hd := Lib.hid (HS.out.done (frScan_short (by rw [hL]; exact h)))
      have hok := Lib.hid (show ((s.data.toList.drop p).length < frLn (s.data.toList.drop p) + 4 ∧ (⟨#[]⟩ : ByteArray) = ⟨#[]⟩ ∧ false = false) ∨ (¬ (s.data.toList.drop p).length < frLn (s.data.toList.drop p) + 4 ∧ (⟨#[]⟩ : ByteArray) = B ((s.data.toList.drop p).take (frLn (s.data.toList.drop p) + 4)) ∧ false = true) from .inl ⟨by rw [hL]; exact h, rfl, rfl⟩)
      clear h hlen hL
      go_wp2_with (go_at_call 34; (with_reducible refine (next_any b p s _ hs hp _ HB hS2.out _ _ hok).mono ?_); rintro e w1 ⟨rfl, hr1⟩)
      rw [Exit.noGoto_ret]
      go_ret
      exact ⟨p, es, 0, rfl, HRd.out.rel hr1, HR2.out.trans hr1, .inl ⟨rfl, hd.out⟩⟩
    · obtain ⟨T, hT⟩ : ∃ T, L.take (frLn L + 4) = T := ⟨_, rfl⟩
      have hok := Lib.hid (show ((s.data.toList.drop p).length < frLn (s.data.toList.drop p) + 4 ∧ B T = ⟨#[]⟩ ∧ true = false) ∨ (¬ (s.data.toList.drop p).length < frLn (s.data.toList.drop p) + 4 ∧ B T = B ((s.data.toList.drop p).take (frLn (s.data.toList.drop p) + 4)) ∧ true = true) from .inr ⟨by rw [hL]; exact h, by rw [hL, hT], rfl⟩)
      have hnb := ln_bd L
      have hTl : T.length = frLn L + 4 := by rw [← hT, List.length_take]; omega
      have HG := Lib.hid (And.intro h (And.intro hL hT))
      have HTL := Lib.hid hTl
      have ht1 : 4 ≤ T.length := by omega
      have ht2 : T.length ≤ 70000 := by omega
      have ht3 : p + T.length ≤ s.size := by rw [hL] at hlen; omega
      clear h hlen hL hT hnb hTl
      cases hg : frGood T with
      | none =>
        have HN := Lib.hid hg
        have hd := Lib.hid (HS.out.done (frScan_bad (by rw [HG.out.2.1]; exact HG.out.1) (by rw [HG.out.2.1, HG.out.2.2]; exact hg)))
        clear hg
        go_wp2_with (first
          | (go_at_call 34; (with_reducible refine (next_any b p s _ hs hp _ HB hS2.out _ _ hok).mono ?_); rintro e w1 ⟨rfl, hr1⟩; have hz1 := hr1.size)
          | (go_at_call 35; (with_reducible refine (tell_no b base p s T ht1 ht2 es (by omega) (by omega) w0 _ (HR2.out.trans hr1) hb0 hbase (by omega) (Lib.hid (HRd.out.rel hr1)) HN).mono ?_); rintro e w2 ⟨rfl, hr2, hR4⟩))
        rw [Exit.noGoto_ret]
        go_ret
        exact ⟨p, es, 40, rfl, hr2, hR4, .inr ⟨rfl, hd.out⟩⟩
      | some r =>
        have HN := Lib.hid hg
        clear hg
        go_wp2_with (first
          | (go_at_call 34; (with_reducible refine (next_any b p s _ hs hp _ HB hS2.out _ _ hok).mono ?_); rintro e w1 ⟨rfl, hr1⟩; have hz1 := hr1.size)
          | (go_at_call 35; (with_reducible refine (tell_yes b base p s T ht1 ht2 es (by omega) (by omega) w0 _ (HR2.out.trans hr1) hb0 hbase (by omega) (Lib.hid (HRd.out.rel hr1)) r HN).mono ?_); rintro e w2 ⟨rfl, x, hx, hr2, hR4, hz2⟩))
        go_roundw
        case rel =>
          refine ⟨p + T.length, es ++ [x], ht3, by rw [List.length_append, List.length_singleton]; omega, Lib.hid hr2, hR4, by omega, Lib.hid ?_⟩
          have := HS.out.more (e := x) (by rw [HG.out.2.1]; exact HG.out.1) (by rw [HG.out.2.1, HG.out.2.2]; exact hx)
          rw [HG.out.2.1, Nat.add_assoc] at this
          rw [HTL.out]
          exact this
        case measure =>
          rw [farAt_eq hr2, farAt_eq HRd.out]
          omega
set_option maxRecDepth 100000 in
set_option maxHeartbeats 4000000 in
theorem scan_any (s : ByteArray) (hs : s.size ≤ 2000000) (w0 w : World) (hr : Rel w0 w) : Calls Tryd.prog 17 #[.string s] w (ScanPost s w0) := by
  have HR := Lib.hid hr
  have hr1 := Lib.hid (hr.self.alloc (.cells #[.slice none 0 0, .int .i64 0, .string s] 53))
  have hB := Bk.new w 53 #[.slice none 0 0, .int .i64 0, .string s]
  have hrd := Lib.hid (show Reader (w.alloc (.cells #[.slice none 0 0, .int .i64 0, .string s] 53)) w.heap.size w.heap.size 0 s [] from ⟨none, 0, hB, ElsOwn.nil _ _⟩)
  clear hr hB
  go_enter Tryd.func17, Tryd.ntmps17
  go_wp2_with (go_at_call 27; (with_reducible refine (read_any w.heap.size w.heap.size s hs w _ hr1.out (Nat.le_refl _) (Nat.le_refl _) (by simp) hrd).mono ?_); rintro e w2 ⟨p, es, err, rfl, ⟨A, c, hb2, he2⟩, hr2, hsc⟩; obtain ⟨⟨c0, c1, c2⟩, _⟩ := hb2.three)
  go_quiet (fail)
  go_wp2_with (fail)
  go_ret3
  exact ⟨es, A, c, p, w.heap.size, err, rfl, (HR.out.trans hr2).drewN _, he2.rel (hr2.self.drewN _), hsc⟩
end Go.Proofs.YtjbbfcomgglhiaaDoor
