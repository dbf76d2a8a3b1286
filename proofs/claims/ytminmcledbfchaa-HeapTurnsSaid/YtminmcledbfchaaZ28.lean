/- Layer 16: pushed in two orders, changed back, two heaps give out the same (HeapTurns): the law's walk. -/
import Derived.Test.YtminmcledbfchaaZL
import Derived.Test.YtminmcledbfchaaZ00
import Derived.Test.YtminmcledbfchaaZ01
import Derived.Test.YtminmcledbfchaaZ06
import Derived.Test.YtminmcledbfchaaZ08
import Derived.Test.YtminmcledbfchaaZ10
import Derived.Test.YtminmcledbfchaaZ12
import Derived.Test.YtminmcledbfchaaZ15
import Derived.Test.YtminmcledbfchaaZ27
namespace Go.Proofs.Ytminmcledbfchaa
open Go.RowKit Go.Lib
set_option linter.unusedVariables false
set_option linter.unusedSimpArgs false
theorem ints16_at {w : World} {A : Option Addr} {c : Nat} {L : List Int} (h : Ints16 w A c L) (k : Nat) (hk : k < L.length) : ∃ (a : Addr) (z : Int), A = some a ∧ w.cell? (a.add k) = some (.int .i64 z) ∧ L.getD k 0 = z ∧ i64 z := by
  obtain ⟨a, e, _, hc⟩ := h.2.2.2 k hk
  have hz := h.2.2.1 _ (List.getElem_mem hk)
  refine ⟨a, L[k], e, hc, ?_, hz⟩
  rw [List.getD_eq_getElem?_getD, List.getElem?_eq_getElem hk]; rfl
set_option maxRecDepth 100000 in
set_option maxHeartbeats 16000000 in
theorem HeapTurns_at {HP : HpT} (H : HeapOk HP) (x : Int) (hx : i64 x) (A : Option Addr) (c : Nat) (zs : List Int) (w : World) (hr : Rel w w) (hZ : Ints16 w A c zs) :
    Calls Try.prog 5 #[.slice A zs.length c, .int .i64 x] w fun e w' => e = .returned (.bool true) ∧ Rel w w' := by
  have HR := Lib.hid hr
  have HH := Lib.hid H
  have HZ := Lib.hid hZ
  have HAw := Lib.hid (fun (w : World) (hr : Rel w w) => awake16_any H w hr)
  obtain ⟨N, hN⟩ : ∃ n, zs.length = n := ⟨_, rfl⟩
  have hN9 : N ≤ 9223372036854775807 := by rw [← hN]; have h1 := hZ.1; have h2 := hZ.2.1; unfold maxLen at h2; omega
  have HN := Lib.hid hN
  rw [hN]
  obtain ⟨n, hn⟩ : ∃ n : Nat, (if (30 : Int) < (N : Int) then 30 else (N : Int)) = (n : Int) := ⟨min N 30, by split <;> omega⟩
  have hn30 : n ≤ 30 := by split at hn <;> omega
  have hnN : n ≤ N := by split at hn <;> omega
  have HnN := Lib.hid hnN
  have Hn30 := Lib.hid hn30
  have k1 : wrap64 ((n : Int) + 1) = (n : Int) + 1 := by unfold wrap64; omega
  obtain ⟨s, hs⟩ : ∃ s : Nat, pk x ((n : Int) + 1) = (s : Int) := ⟨(pk x ((n : Int) + 1)).toNat, by have := pk_bd x ((n : Int) + 1) (by omega); omega⟩
  have hsb := pk_bd x ((n : Int) + 1) (by omega)
  rw [hs] at hsb
  have hsn : s ≤ n := by omega
  have HPs := Lib.hid (fun (w : World) => pk16_as x ((n : Int) + 1) (s : Int) (Lib.hid hs) hx (by omega) (by omega) w)
  have HPz := Lib.hid (fun (z p : Int) (hz : i64 z) (hp : pk z 9 = p) (w : World) => pk16_as z 9 p (Lib.hid hp) hz (by omega) (by omega) w)
  obtain ⟨f, hf⟩ : ∃ f : Nat → Int, f = fun k => pk (zs.getD k 0) 9 := ⟨_, rfl⟩
  obtain ⟨g, hg⟩ : ∃ g : Nat → Int, g = fun k => f k + if k = s then 5 else 0 := ⟨_, rfl⟩
  have hfz : ∀ k, pk (zs.getD k 0) 9 = f k := fun k => by rw [hf]
  have hfb : ∀ k, 0 ≤ f k ∧ f k < 9 := fun k => by rw [hf]; exact pk_bd _ 9 (by omega)
  have hg1 : g s = f s + 5 := by rw [hg]; show f s + (if s = s then 5 else 0) = _; rw [if_pos rfl]
  have hg2 : ∀ k, k ≠ s → g k = f k := fun k h => by rw [hg]; show f k + (if k = s then 5 else 0) = _; rw [if_neg h]; omega
  have HFz := Lib.hid hfz
  have HFb := Lib.hid hfb
  have HG1 := Lib.hid hg1
  have HG2 := Lib.hid hg2
  have HEl := Lib.hid (fun (w1 : World) (k : Nat) (hr1 : Rel w w1) (hk : k < n) => ints16_at (hZ.rel hr1) k (by omega))
  have KN := Lib.hid (fun (w1 : World) (hr : Rel w w1) => hnew16 H (w0 := w) w1 hr (most := 100) (in16 (by omega) (by omega)) (by omega) (by omega))
  have HMn := Lib.hid hn
  have HMm := Lib.hid (show min (N : Int) 30 = (n : Int) by have h := hn; split at h <;> omega)
  clear H hr hx hZ hN hn hs hsb hf hg hfz hfb hg1 hg2
  go_enter Try.func5, Try.ntmps5
  go_upto_region 2 with (go_at_call 9; (with_reducible refine (HAw.out w HR.out).mono ?_); rintro e w1 ⟨rfl, h1⟩; have R1 := Lib.hid h1; clear h1)
  go_upto_region 3 with (go_at_call 11; (with_reducible refine (KN.out w1 R1.out).mono ?_); rintro e w2 ⟨g1, S1, rfl, h2, _, _⟩)
  go_upto_region 4 with (go_at_call 11; (with_reducible refine (KN.out w2 h2.out.rel).mono ?_); rintro e w3 ⟨g2, S2, rfl, h3, r3, n3⟩)
  obtain ⟨va, hva⟩ : ∃ v, Value.pointer (some ⟨g1, 0, none⟩) = v := ⟨_, rfl⟩
  obtain ⟨vb, hvb⟩ : ∃ v, Value.pointer (some ⟨g2, 0, none⟩) = v := ⟨_, rfl⟩
  rw [hva] at h2
  rw [hvb] at h3
  try rw [hva]
  try rw [hvb]
  clear hva hvb
  have HT0 := Lib.hid (show Twain HP w w3 va vb [] [] from ⟨S1, S2, Hq.to HH.out h2.out r3.out, h3.out, fun k h1 h2' => Nat.not_lt_of_le (n3.out k h2') (HH.out.lt h2.out.hp k h1)⟩)
  clear h2 h3 r3 n3 KN HAw R1
  go_upto_region 5 with (fail)
  first
    | rw [HMn.out]
    | rw [HMm.out]
  go_upto_region 6 with (go_at_call 10; (with_reducible refine (HPs.out _).mono ?_); rintro e w3' ⟨rfl, rfl⟩)
  clear HPs
  go_upto_block 0 with (fail)
  go_cut [] (fun wx => ∃ (La Lb : List It), Hid (AtR f 0 n La) ∧ Hid (AtR g 0 n Lb) ∧ Hid (Twain HP w wx va vb La Lb))
  case first =>
    go_wp2_with (fail)
    go_loopw [10] (fun i wr => ∃ (j : Nat) (La Lb : List It), j ≤ n ∧ i = .int .i64 (j : Int) ∧ Hid (AtR f 0 j La) ∧ Hid (AtR g (n - j) n Lb) ∧ Hid (Twain HP w wr va vb La Lb)) (fun i _ => n - (RowKit.intOf i).toNat)
    case atStart => exact ⟨0, [], [], by omega, rfl, Lib.hid (at_nil f 0), Lib.hid (at_nil g n), HT0⟩
    case round =>
      obtain ⟨j, La, Lb, hj, rfl, HA, HB, HT⟩ := hrel
      by_cases hlt : j < n
      rotate_left 1
      · obtain rfl : j = n := by omega
        go_wp2_with (fail)
        go_meet
        exact ⟨La, Lb, HA, Lib.hid (by have := HB.out; rw [Nat.sub_self] at this; exact this), HT⟩
      have hn30 := Hn30.out
      have hji : (j : Int) < (n : Int) := by omega
      have hji0 : (0 : Int) ≤ (j : Int) := by omega
      obtain ⟨jj, hjj⟩ : ∃ jj : Nat, n - 1 - j = jj := ⟨_, rfl⟩
      have i1 : (n : Int) - 1 - (j : Int) = (jj : Int) := by omega
      have i2 : (jj : Int) < (N : Int) := by omega
      have i3 : (0 : Int) ≤ (jj : Int) := by omega
      have i4 : (j : Int) < (N : Int) := by omega
      have hla : La.length < 100 := by have := HA.out.2.1; omega
      have hlb : Lb.length < 100 := by have := HB.out.2.1; omega
      have HB' := Lib.hid (show AtR g (jj + 1) n Lb by rw [show jj + 1 = n - j by omega]; exact HB.out)
      have HAn := Lib.hid (at_up HA.out hla)
      have HBn := Lib.hid (show AtR g (n - (j + 1)) n _ by rw [show n - (j + 1) = jj by omega]; exact at_dn HB'.out hlb)
      obtain ⟨p1, p2, _⟩ := at_push HA.out (.inr (Nat.le_refl _)) hla
      obtain ⟨q1, q2, _⟩ := at_push HB'.out (k := jj) (.inl (by omega)) hlb
      obtain ⟨a, z, rfl, c0, hz1, hz2⟩ := HEl.out wr j HT.out.rel hlt
      have hf1 := HFz.out j
      rw [hz1] at hf1
      have fb1 := HFb.out j
      have HPa := Lib.hid (HPz.out z (f j) hz2 hf1)
      have HPu := Lib.hid (two_push HH.out HT.out (k := (j : Int)) (p := f j) (in16 (by omega) (by omega)) (in16 (by omega) (by omega)) p1 p2)
      have KB := Lib.hid (fun (w1 : World) (p : Int) (hp : g jj = p) (hpi : i64 p) (L1 : List It) (h : Twain HP w w1 va vb L1 Lb) => two_push HH.out h.swap (k := (jj : Int)) (p := p) (E := 0) (L' := insH Lb ((jj : Int), g jj)) (in16 (by omega) (by omega)) hpi q1 (by rw [← hp]; exact q2))
      clear p1 p2 q1 q2 hla hlb hz1 hz2 hf1 HB HB' fb1
      go_upto_region 12 with (first
        | (go_at_call 10; (with_reducible refine (HPa.out _).mono ?_); rintro e w4' ⟨rfl, rfl⟩)
        | (go_at_call 13; (with_reducible refine (HPu.out).mono ?_); rintro e w4 ⟨rfl, h4⟩))
      clear c0 HPa HPu
      obtain ⟨b, y, hba, d0, hy1, hy2⟩ := HEl.out w4 jj h4.out.rel (by omega)
      injection hba with hba
      subst hba
      have hf2 := HFz.out jj
      rw [hy1] at hf2
      obtain ⟨q, hq⟩ : ∃ q, f jj = q := ⟨_, rfl⟩
      have fb2 := HFb.out jj
      rw [hq] at hf2 fb2
      have HPb := Lib.hid (HPz.out y q hy2 hf2)
      have hj9 : (jj : Int) ≤ 30 := by omega
      clear hjj hy1 hy2 hf2
      by_cases hjs : jj = s
      · have hjs1 : ((jj : Int) == (s : Int)) = true := by rw [hjs]; simp
        have hgq : g jj = q + 5 := by rw [hjs, HG1.out, ← hjs, hq]
        have HPv := Lib.hid (KB.out w4 (q + 5) hgq (in16 (by omega) (by omega)) _ h4.out)
        clear hgq KB hjs
        go_wp2_with (first
          | (go_at_call 10; (with_reducible refine (HPb.out _).mono ?_); rintro e w4' ⟨rfl, rfl⟩)
          | (go_at_call 13; (with_reducible refine (HPv.out).mono ?_); rintro e w5 ⟨rfl, h5⟩))
        go_roundw
        case rel => exact ⟨j + 1, _, _, by omega, by go_num, HAn, HBn, Lib.hid h5.out.swap⟩
        case measure => simp [RowKit.intOf]; omega
      · have hjs1 : ((jj : Int) == (s : Int)) = false := by simpa using (show ¬ (jj : Int) = (s : Int) by omega)
        have hgq : g jj = q := by rw [HG2.out jj hjs, hq]
        have HPv := Lib.hid (KB.out w4 q hgq (in16 (by omega) (by omega)) _ h4.out)
        clear hgq KB hjs
        go_wp2_with (first
          | (go_at_call 10; (with_reducible refine (HPb.out _).mono ?_); rintro e w4' ⟨rfl, rfl⟩)
          | (go_at_call 13; (with_reducible refine (HPv.out).mono ?_); rintro e w5 ⟨rfl, h5⟩))
        go_roundw
        case rel => exact ⟨j + 1, _, _, by omega, by go_num, HAn, HBn, Lib.hid h5.out.swap⟩
        case measure => simp [RowKit.intOf]; omega
  obtain ⟨La, Lb, HA, HB, HT⟩ := hcut
  clear HT0
  obtain ⟨b, hb⟩ : ∃ b, decide ((s : Int) < (n : Int)) = b := ⟨_, rfl⟩
  go_upto_region 17 with (fail)
  go_cut [74] (fun q wx => q = .bool false ∧ Hid (Twain HP w wx va vb La La))
  case first =>
    by_cases hsl : s < n
    · have j1 : (s : Int) < (n : Int) := by omega
      have j2 : (0 : Int) ≤ (s : Int) := by omega
      have hnN := HnN.out
      have j3 : (s : Int) < (N : Int) := by omega
      have hn30 := Hn30.out
      obtain ⟨a, z, rfl, c0, hz1, hz2⟩ := HEl.out _ s HT.out.rel hsl
      have hf1 := HFz.out s
      rw [hz1] at hf1
      have fb1 := HFb.out s
      have HPa := Lib.hid (HPz.out z (f s) hz2 hf1)
      have HCg := Lib.hid (two_chg HH.out HT.out.swap (k := (s : Int)) (p := f s) (in16 (by omega) (by omega)) (in16 (by omega) (by omega)) ((at_has HB.out s).2 ⟨Nat.zero_le _, hsl⟩) (at_back HA.out HB.out hsl (fun k _ h => HG2.out k h)))
      clear hz1 hz2 hf1 fb1 hb
      go_wp2_with (first
        | (go_at_call 10; (with_reducible refine (HPa.out _).mono ?_); rintro e w4' ⟨rfl, rfl⟩)
        | (go_at_call 17; (with_reducible refine (HCg.out).mono ?_); rintro e w4 ⟨rfl, h4⟩))
      go_meet
      exact ⟨rfl, Lib.hid h4.out.swap⟩
    · have j1 : ¬ (s : Int) < (n : Int) := by omega
      clear hb
      have hLab : Lb = La := at_same HA.out HB.out (fun k hk => HG2.out k (by omega))
      go_wp2_with (fail)
      go_meet
      exact ⟨rfl, by rw [← hLab]; rw [hLab] at HT; rw [hLab]; exact HT⟩
  obtain ⟨rfl, HU⟩ := hcut
  clear HT hb
  have HLs := Lib.hid HA.out.1
  have HLl := Lib.hid (show La.length = n by have := HA.out.2.1; omega)
  clear HB HEl
  go_upto_block 2 with (fail)
  go_cut [] (fun wx => Hid (Rel w wx))
  case first =>
    go_wp2_with (fail)
    go_loopw [13] (fun i wr => ∃ j : Nat, j ≤ n + 1 ∧ i = .int .i64 (j : Int) ∧ Hid (Twain HP w wr va vb (popsH La j) (popsH La j))) (fun i _ => n + 1 - (RowKit.intOf i).toNat)
    case atStart => exact ⟨0, by omega, rfl, HU⟩
    case round =>
      obtain ⟨j, hj, rfl, HT⟩ := hrel
      have hn30 := Hn30.out
      by_cases hlt : j ≤ n
      rotate_left 1
      · have j1 : ¬ (j : Int) ≤ (n : Int) := by omega
        go_wp2_with (fail)
        go_meet
        exact Lib.hid HT.out.rel
      have j1 : (j : Int) ≤ (n : Int) := by omega
      have hpl := pops_len HLs.out j (by rw [HLl.out]; exact hlt)
      rw [HLl.out] at hpl
      obtain ⟨L, hL⟩ : ∃ l, popsH La j = l := ⟨_, rfl⟩
      rw [hL] at HT hpl
      obtain ⟨L', hL'⟩ : ∃ l, popH L = l := ⟨_, rfl⟩
      have HNx := Lib.hid (show popsH La (j + 1) = L' by show popH (popsH La j) = L'; rw [hL, hL'])
      obtain ⟨tx, ty, ht⟩ : ∃ a b, itH (topH L) = (a, b) := ⟨_, _, rfl⟩
      obtain ⟨o, ho⟩ : ∃ o, decide ((j : Int) < (n : Int)) = o := ⟨_, rfl⟩
      have ho2 : (topH L).isSome = o := by
        rw [← ho]
        by_cases h : j < n
        · obtain ⟨z, hz⟩ := top_some (L := L) (by omega)
          rw [hz, decide_eq_true (by omega)]; rfl
        · have : L = [] := List.length_eq_zero_iff.1 (by omega)
          rw [this, decide_eq_false (by omega)]; rfl
      have k2 : (o != o) = false := by simp
      have k6 : (!o == o) = false := by cases o <;> rfl
      have ho3 : decide (j < n) = o := by rw [← ho, Bool.eq_iff_iff, decide_eq_true_eq, decide_eq_true_eq]; omega
      have k4 : (tx == tx) = true := by simp
      have k5 : (ty == ty) = true := by simp
      obtain ⟨Sa, Sb, ha, hb, hd⟩ := HT.out
      have Ha := Lib.hid ha
      have Hb := Lib.hid hb
      have Hd := Lib.hid hd
      have HPo := Lib.hid (fun (w1 : World) (v : Value) (S : Nat → Prop) (h : Hq HP w w1 v S 100 L) => hpop16 HH.out h ht ho2 hL')
      clear hpl hL hL' ht ho2 ha hb hd HT
      go_upto_region 23 with (go_at_call 15; (with_reducible refine (HPo.out _ _ _ Ha.out).mono ?_); rintro e w5 ⟨S5, rfl, h5, s5⟩)
      have hap := Hq.apart HH.out Hb.out Ha.out s5.out Hd.out
      have h5b := Lib.hid hap.1
      have d5 := Lib.hid hap.2
      clear hap
      have AL := Lib.hid (h5.out.rel.self.alloc (.cells #[.int .i64 tx, .int .i64 ty] 36))
      have BX := Lib.hid (Bx.new HH.out h5b.out 36 #[.int .i64 tx, .int .i64 ty])
      have h6 := Lib.hid (Hq.to HH.out h5.out AL.out)
      have h6b := Lib.hid (Hq.to HH.out h5b.out AL.out)
      obtain ⟨w6, hw6⟩ : ∃ W, w5.alloc (.cells #[.int .i64 tx, .int .i64 ty] 36) = W := ⟨_, rfl⟩
      obtain ⟨ga, hga⟩ : ∃ q, w5.heap.size = q := ⟨_, rfl⟩
      rw [hw6] at BX h6 h6b
      rw [hga] at BX
      try rw [hw6]
      try rw [hga]
      clear hw6 hga h5 h5b AL s5 Ha Hb Hd
      go_upto_region 24 with (go_at_call 15; (with_reducible refine (HPo.out _ _ _ h6b.out).mono ?_); rintro e w7 ⟨S7, rfl, h7b, s7⟩)
      have hap := Hq.apart HH.out h6.out h6b.out s7.out (fun k hk hk' => d5.out k hk' hk)
      have h7 := Lib.hid hap.1
      have d7 := Lib.hid hap.2
      clear hap
      have BX7 := Lib.hid (BX.out.st s7.out)
      have AL := Lib.hid (h7.out.rel.self.alloc (.cells #[.int .i64 tx, .int .i64 ty] 36))
      have BY := Lib.hid (Bx.new HH.out h7.out 36 #[.int .i64 tx, .int .i64 ty])
      have BX8 := Lib.hid (BX7.out.rel AL.out)
      have h8 := Lib.hid (Hq.to HH.out h7.out AL.out)
      have h8b := Lib.hid (Hq.to HH.out h7b.out AL.out)
      obtain ⟨w8, hw8⟩ : ∃ W, w7.alloc (.cells #[.int .i64 tx, .int .i64 ty] 36) = W := ⟨_, rfl⟩
      obtain ⟨gb, hgb⟩ : ∃ q, w7.heap.size = q := ⟨_, rfl⟩
      rw [hw8] at BX8 BY h8 h8b
      rw [hgb] at BY
      try rw [hw8]
      try rw [hgb]
      clear hw8 hgb h6 h6b h7 h7b AL s7 BX BX7
      obtain ⟨⟨x0, x1⟩, _⟩ := BX8.out.1.two
      obtain ⟨⟨y0, y1⟩, _⟩ := BY.out.1.two
      go_wp2_with (fail)
      go_roundw
      case rel => exact ⟨j + 1, by omega, by go_num, by rw [HNx.out]; exact Lib.hid ⟨S5, S7, h8.out, h8b.out, fun k hk hk' => d7.out k hk' hk⟩⟩
      case measure => simp [RowKit.intOf]; omega
  have HRx := hcut
  clear HU
  go_wp2_with (fail)
  go_ret
  exact ⟨rfl, HRx.out⟩
end Go.Proofs.Ytminmcledbfchaa
